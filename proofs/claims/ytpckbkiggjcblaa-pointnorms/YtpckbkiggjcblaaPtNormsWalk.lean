/- swagelaw06.PointNorms answers true at all points, and turns nothing that was there. -/
import Derived.Test.YtpckbkiggjcblaaPtOne
namespace Go.Proofs.Ytpckbkiggjcblaa
open Go.RowKit

set_option maxRecDepth 100000 in
set_option maxHeartbeats 4000000 in
theorem pnorms_walk (a b c d : Int) (w : World) :
    Calls Try.prog 3 #[.agg #[.int .i64 a, .int .i64 b], .agg #[.int .i64 c, .int .i64 d]] w fun e w' => e = .returned (.bool true) ∧ Below w.heap.size w w' := by
  have HX := hide (nboxp 23 w (.int .i64 a) (.int .i64 b) (.int .i64 c) (.int .i64 d))
  have X1 := hide HX.out.1
  have X2 := hide HX.out.2.1
  have HB := hide HX.out.2.2
  clear HX
  obtain ⟨i, hi⟩ : ∃ i, inB a b = i := ⟨_, rfl⟩
  obtain ⟨j, hj⟩ : ∃ j, inB c d = j := ⟨_, rfl⟩
  have HI := hide hi
  have HJ := hide hj
  clear hi hj
  go_enter Try.func3, Try.ntmps3
  go_wp2_with fail
  generalize (w.alloc (.cells #[.int .i64 a, .int .i64 b] 23)).alloc (.cells #[.int .i64 c, .int .i64 d] 23) = w0 at *
  refine (live_any _).mono ?_
  rintro e w1 ⟨rfl, hb⟩
  replace HB := hide (HB.out.trans ((hb).mono HB.out.size))
  replace X1 := hide (X1.out.step (hb))
  replace X2 := hide (X2.out.step (hb))
  clear hb
  go_upto_region 3 with fail
  refine wp_calm (fun w' => Below w.heap.size w w' ∧ Box2 w' w.heap.size 23 (.int .i64 a) (.int .i64 b) ∧ Box2 w' (w.heap.size + 1) 23 (.int .i64 c) (.int .i64 d)) (fun _ => true) 6 #[false, false, false, false, false, false] (by kernel_rfl) rfl rfl ?_
  have HF := hide (And.intro HB.out.drew (And.intro X1.out.drew X2.out.drew))
  generalize w1.drew = w1d at *
  refine Calm.take (i := 0) (v := ?_) (a' := ?_) (l' := #[true, false, false, false, false, false]) (d := some 20) rfl (by kernel_rfl) (by kernel_rfl) (by kernel_rfl) (by kernel_rfl) (fun _ _ _ h => h) HF.out rfl ?_ rfl rfl ?_ ?_
  rotate_left
  · intro w' hF; have f10 := hF.2.1.cell0; have f11 := hF.2.1.cell1; have f20 := hF.2.2.cell0; have f21 := hF.2.2.cell1; clear hF; go_simp; try rfl
  rotate_left
  · simp only [Act.put]; exact rfl
  refine Calm.take (i := 2) (v := ?_) (a' := ?_) (l' := #[true, false, true, false, false, false]) (d := some 22) rfl (by kernel_rfl) (by kernel_rfl) (by kernel_rfl) (by kernel_rfl) (fun _ _ _ h => h) HF.out rfl ?_ rfl rfl ?_ ?_
  rotate_left
  · intro w' hF; have f10 := hF.2.1.cell0; have f11 := hF.2.1.cell1; have f20 := hF.2.2.cell0; have f21 := hF.2.2.cell1; clear hF; go_simp; try rfl
  rotate_left
  · simp only [Act.put]; exact rfl
  refine Calm.one (i := 1) (l' := #[true, true, true, false, false, false]) (by kernel_rfl) rfl rfl rfl fun K hK => ?_
  go_simp
  refine (rin_any a b _).mono ?_
  rintro e w2 ⟨rfl, hb⟩
  rw [HI.out]
  have HF' := hide (And.intro (HF.out.1.trans ((hb).mono HF.out.1.size)) (And.intro (HF.out.2.1.step (hb)) (HF.out.2.2.step (hb))))
  refine hK _ _ (fun _ => HF'.out) ?_
  clear hK K HF hb
  have HF := hide HF'.out
  clear HF'
  refine Calm.one (i := 3) (l' := #[true, true, true, true, false, false]) (by kernel_rfl) rfl rfl rfl fun K hK => ?_
  go_simp
  refine (rin_any c d _).mono ?_
  rintro e w3 ⟨rfl, hb⟩
  rw [HJ.out]
  have HF' := hide (And.intro (HF.out.1.trans ((hb).mono HF.out.1.size)) (And.intro (HF.out.2.1.step (hb)) (HF.out.2.2.step (hb))))
  refine hK _ _ (fun _ => HF'.out) ?_
  clear hK K HF hb
  have HF := hide HF'.out
  clear HF'
  refine Calm.take (i := 4) (v := ?_) (a' := ?_) (l' := #[true, true, true, true, true, false]) (d := some 5) rfl (by kernel_rfl) (by kernel_rfl) (by kernel_rfl) (by kernel_rfl) (fun _ _ _ h => h) HF.out rfl ?_ rfl rfl ?_ ?_
  rotate_left
  · intro w' hF; clear hF; go_simp; try rfl
  rotate_left
  · simp only [Act.put]; exact rfl
  refine Calm.take (i := 5) (v := ?_) (a' := ?_) (l' := #[true, true, true, true, true, true]) (d := some 6) rfl (by kernel_rfl) (by kernel_rfl) (by kernel_rfl) (by kernel_rfl) (fun _ _ _ h => h) HF.out rfl ?_ rfl rfl ?_ ?_
  rotate_left
  · intro w' hF; clear hF; go_simp; try rfl
  rotate_left
  · simp only [Act.put]; exact rfl
  refine Calm.done (by kernel_rfl) ?_
  replace HB := hide HF.out.1
  replace X1 := hide HF.out.2.1
  replace X2 := hide HF.out.2.2
  clear HF
  go_upto_region 4 with fail
  refine wp_calm (fun w' => Below w.heap.size w w' ∧ Box2 w' w.heap.size 23 (.int .i64 a) (.int .i64 b) ∧ Box2 w' (w.heap.size + 1) 23 (.int .i64 c) (.int .i64 d)) (fun _ => true) 15 #[false, false, false, false, false, false, false, false, false, false, false, false, false, false, false] (by kernel_rfl) rfl rfl ?_
  have HF := hide (And.intro HB.out.drew (And.intro X1.out.drew X2.out.drew))
  generalize w3.drew = w3d at *
  refine Calm.take (i := 0) (v := ?_) (a' := ?_) (l' := #[true, false, false, false, false, false, false, false, false, false, false, false, false, false, false]) (d := some 24) rfl (by kernel_rfl) (by kernel_rfl) (by kernel_rfl) (by kernel_rfl) (fun _ _ _ h => h) HF.out rfl ?_ rfl rfl ?_ ?_
  rotate_left
  · intro w' hF; have f10 := hF.2.1.cell0; have f11 := hF.2.1.cell1; have f20 := hF.2.2.cell0; have f21 := hF.2.2.cell1; clear hF; go_simp; try rfl
  rotate_left
  · simp only [Act.put]; exact rfl
  refine Calm.take (i := 2) (v := ?_) (a' := ?_) (l' := #[true, false, true, false, false, false, false, false, false, false, false, false, false, false, false]) (d := some 26) rfl (by kernel_rfl) (by kernel_rfl) (by kernel_rfl) (by kernel_rfl) (fun _ _ _ h => h) HF.out rfl ?_ rfl rfl ?_ ?_
  rotate_left
  · intro w' hF; clear hF; go_simp; try rfl
  rotate_left
  · simp only [Act.put]; exact rfl
  refine Calm.one (i := 1) (l' := #[true, true, true, false, false, false, false, false, false, false, false, false, false, false, false]) (by kernel_rfl) rfl rfl rfl fun K hK => ?_
  go_simp
  refine (in_any a b _).mono ?_
  rintro e w4 ⟨rfl, hb⟩
  rw [HI.out]
  have HF' := hide (And.intro (HF.out.1.trans ((hb).mono HF.out.1.size)) (And.intro (HF.out.2.1.step (hb)) (HF.out.2.2.step (hb))))
  refine hK _ _ (fun _ => HF'.out) ?_
  clear hK K HF hb
  have HF := hide HF'.out
  clear HF'
  refine Calm.take (i := 3) (v := ?_) (a' := ?_) (l' := #[true, true, true, true, false, false, false, false, false, false, false, false, false, false, false]) (d := some 27) rfl (by kernel_rfl) (by kernel_rfl) (by kernel_rfl) (by kernel_rfl) (fun _ _ _ h => h) HF.out rfl ?_ rfl rfl ?_ ?_
  rotate_left
  · intro w' hF; clear hF; go_simp; try rfl
  rotate_left
  · simp only [Act.put]; exact rfl
  refine Calm.take (i := 4) (v := ?_) (a' := ?_) (l' := #[true, true, true, true, true, false, false, false, false, false, false, false, false, false, false]) (d := some 28) rfl (by kernel_rfl) (by kernel_rfl) (by kernel_rfl) (by kernel_rfl) (fun _ _ _ h => h) HF.out rfl ?_ rfl rfl ?_ ?_
  rotate_left
  · intro w' hF; clear hF; go_simp; try rfl
  rotate_left
  · simp only [Act.put]; exact rfl
  refine Calm.take (i := 5) (v := ?_) (a' := ?_) (l' := #[true, true, true, true, true, true, false, false, false, false, false, false, false, false, false]) (d := some 29) rfl (by kernel_rfl) (by kernel_rfl) (by kernel_rfl) (by kernel_rfl) (fun _ _ _ h => h) HF.out (by kernel_rfl) ?_ rfl rfl ?_ ?_
  rotate_left
  · intro w' hF; have f10 := hF.2.1.cell0; have f11 := hF.2.1.cell1; have f20 := hF.2.2.cell0; have f21 := hF.2.2.cell1; clear hF; go_simp; try rfl
  rotate_left
  · simp only [Act.put]; exact rfl
  refine Calm.take (i := 7) (v := ?_) (a' := ?_) (l' := #[true, true, true, true, true, true, false, true, false, false, false, false, false, false, false]) (d := some 31) rfl (by kernel_rfl) (by kernel_rfl) (by kernel_rfl) (by kernel_rfl) (fun _ _ _ h => h) HF.out (by kernel_rfl) ?_ rfl rfl ?_ ?_
  rotate_left
  · intro w' hF; have f10 := hF.2.1.cell0; have f11 := hF.2.1.cell1; have f20 := hF.2.2.cell0; have f21 := hF.2.2.cell1; clear hF; go_simp; try rfl
  rotate_left
  · simp only [Act.put]; exact rfl
  refine Calm.one (i := 6) (l' := #[true, true, true, true, true, true, true, true, false, false, false, false, false, false, false]) (by kernel_rfl) rfl (by kernel_rfl) rfl fun K hK => ?_
  go_simp
  refine (none_any a b _).mono ?_
  rintro e w5 ⟨rfl, hb⟩
  have HF' := hide (And.intro (HF.out.1.trans ((hb).mono HF.out.1.size)) (And.intro (HF.out.2.1.step (hb)) (HF.out.2.2.step (hb))))
  refine hK _ _ (fun _ => HF'.out) ?_
  clear hK K HF hb
  have HF := hide HF'.out
  clear HF'
  refine Calm.one (i := 8) (l' := #[true, true, true, true, true, true, true, true, true, false, false, false, false, false, false]) (by kernel_rfl) rfl (by kernel_rfl) rfl fun K hK => ?_
  go_simp
  refine (rnone_any a b _).mono ?_
  rintro e w6 ⟨rfl, hb⟩
  have HF' := hide (And.intro (HF.out.1.trans ((hb).mono HF.out.1.size)) (And.intro (HF.out.2.1.step (hb)) (HF.out.2.2.step (hb))))
  refine hK _ _ (fun _ => HF'.out) ?_
  clear hK K HF hb
  have HF := hide HF'.out
  clear HF'
  refine Calm.take (i := 9) (v := ?_) (a' := ?_) (l' := #[true, true, true, true, true, true, true, true, true, true, false, false, false, false, false]) (d := some 33) rfl (by kernel_rfl) (by kernel_rfl) (by kernel_rfl) (by kernel_rfl) (fun _ _ _ h => h) HF.out (by kernel_rfl) ?_ rfl rfl ?_ ?_
  rotate_left
  · intro w' hF; clear hF; go_simp; try rfl
  rotate_left
  · simp only [Act.put]; exact rfl
  refine Calm.take (i := 10) (v := ?_) (a' := ?_) (l' := #[true, true, true, true, true, true, true, true, true, true, true, false, false, false, false]) (d := some 34) rfl (by kernel_rfl) (by kernel_rfl) (by kernel_rfl) (by kernel_rfl) (fun _ _ _ h => h) HF.out rfl ?_ rfl rfl ?_ ?_
  rotate_left
  · intro w' hF; clear hF; go_simp; try rfl
  rotate_left
  · simp only [Act.put]; exact rfl
  refine Calm.take (i := 11) (v := ?_) (a' := ?_) (l' := #[true, true, true, true, true, true, true, true, true, true, true, true, false, false, false]) (d := some 35) rfl (by kernel_rfl) (by kernel_rfl) (by kernel_rfl) (by kernel_rfl) (fun _ _ _ h => h) HF.out rfl ?_ rfl rfl ?_ ?_
  rotate_left
  · intro w' hF; clear hF; go_simp; try rfl
  rotate_left
  · simp only [Act.put]; exact rfl
  refine Calm.one (i := 12) (l' := #[true, true, true, true, true, true, true, true, true, true, true, true, true, false, false]) (by kernel_rfl) rfl (by kernel_rfl) rfl fun K hK => ?_
  go_simp
  refine (live_any _).mono ?_
  rintro e w7 ⟨rfl, hb⟩
  have HF' := hide (And.intro (HF.out.1.trans ((hb).mono HF.out.1.size)) (And.intro (HF.out.2.1.step (hb)) (HF.out.2.2.step (hb))))
  refine hK _ _ (fun _ => HF'.out) ?_
  clear hK K HF hb
  have HF := hide HF'.out
  clear HF'
  refine Calm.take (i := 13) (v := ?_) (a' := ?_) (l' := #[true, true, true, true, true, true, true, true, true, true, true, true, true, true, false]) (d := some 37) rfl (by kernel_rfl) (by kernel_rfl) (by kernel_rfl) (by kernel_rfl) (fun _ _ _ h => h) HF.out (by kernel_rfl) ?_ rfl rfl ?_ ?_
  rotate_left
  · intro w' hF; clear hF; go_simp; try rfl
  rotate_left
  · simp only [Act.put]; exact rfl
  refine Calm.take (i := 14) (v := ?_) (a' := ?_) (l' := #[true, true, true, true, true, true, true, true, true, true, true, true, true, true, true]) (d := some 38) rfl (by kernel_rfl) (by kernel_rfl) (by kernel_rfl) (by kernel_rfl) (fun _ _ _ h => h) HF.out rfl ?_ rfl rfl ?_ ?_
  rotate_left
  · intro w' hF; clear hF; go_simp; try rfl
  rotate_left
  · simp only [Act.put]; exact rfl
  refine Calm.done (by kernel_rfl) ?_
  replace HB := hide HF.out.1
  replace X1 := hide HF.out.2.1
  replace X2 := hide HF.out.2.2
  clear HF
  cases i with
  | false =>
    have X10 := X1.out.cell0
    have X11 := X1.out.cell1
    have X20 := X2.out.cell0
    have X21 := X2.out.cell1
    go_wp2_with fail
    refine (norm_out a b _ HI.out).mono ?_
    rintro e w8 ⟨rfl, hb⟩
    clear X10 X11
    clear X20 X21
    replace HB := hide (HB.out.trans ((hb).mono HB.out.size))
    replace X1 := hide (X1.out.step (hb))
    replace X2 := hide (X2.out.step (hb))
    clear hb
    go_upto_region 7 with fail
    have hb := below_alloc w8 (.cells #[.int .i64 (0), .int .i64 (0)] 23)
    replace HB := hide (HB.out.trans ((hb).mono HB.out.size))
    replace X1 := hide (X1.out.step (hb))
    replace X2 := hide (X2.out.step (hb))
    clear hb
    have NX := hide (Box2.new w8 23 (.int .i64 (0)) (.int .i64 (0)))
    generalize w8.alloc (.cells #[.int .i64 (0), .int .i64 (0)] 23) = w8a at *
    generalize w8.heap.size = gn at *
    have X10 := X1.out.cell0
    have X11 := X1.out.cell1
    have X20 := X2.out.cell0
    have X21 := X2.out.cell1
    go_wp2_with fail
    refine (one_out a b c d _ (by rw [HI.out]; rfl)).mono ?_
    rintro e w9 ⟨rfl, hb⟩
    clear X10 X11
    clear X20 X21
    replace HB := hide (HB.out.trans ((hb).mono HB.out.size))
    replace X1 := hide (X1.out.step (hb))
    replace X2 := hide (X2.out.step (hb))
    replace NX := hide (NX.out.step (hb))
    clear hb
    have X10 := X1.out.cell0
    have X11 := X1.out.cell1
    have X20 := X2.out.cell0
    have X21 := X2.out.cell1
    go_wp2_with fail
    refine (det_out a b c d _ (by rw [HI.out]; rfl)).mono ?_
    rintro e w10 ⟨rfl, hb⟩
    clear X10 X11
    clear X20 X21
    replace HB := hide (HB.out.trans ((hb).mono HB.out.size))
    replace X1 := hide (X1.out.step (hb))
    replace X2 := hide (X2.out.step (hb))
    replace NX := hide (NX.out.step (hb))
    clear hb
    have NX0 := NX.out.cell0
    have NX1 := NX.out.cell1
    go_wp2
    go_ret
    exact ⟨rfl, HB.out⟩
  | true =>
    have HF1 := hide (fine (in_yes HI.out).1.1 (in_yes HI.out).1.2 (in_yes HI.out).2.1 (in_yes HI.out).2.2)
    have X10 := X1.out.cell0
    have X11 := X1.out.cell1
    have X20 := X2.out.cell0
    have X21 := X2.out.cell1
    go_wp2_with fail
    refine (norm_in a b _ HI.out).mono ?_
    rintro e w8 ⟨rfl, hb⟩
    clear X10 X11
    clear X20 X21
    replace HB := hide (HB.out.trans ((hb).mono HB.out.size))
    replace X1 := hide (X1.out.step (hb))
    replace X2 := hide (X2.out.step (hb))
    clear hb
    go_upto_region 7 with fail
    have hb := below_alloc w8 (.cells #[.int .i64 (nA a b), .int .i64 (nB a b)] 23)
    replace HB := hide (HB.out.trans ((hb).mono HB.out.size))
    replace X1 := hide (X1.out.step (hb))
    replace X2 := hide (X2.out.step (hb))
    clear hb
    have NX := hide (Box2.new w8 23 (.int .i64 (nA a b)) (.int .i64 (nB a b)))
    generalize w8.alloc (.cells #[.int .i64 (nA a b), .int .i64 (nB a b)] 23) = w8a at *
    generalize w8.heap.size = gn at *
    cases j with
    | false =>
      have X10 := X1.out.cell0
      have X11 := X1.out.cell1
      have X20 := X2.out.cell0
      have X21 := X2.out.cell1
      go_wp2_with fail
      refine (one_out a b c d _ (by rw [HJ.out]; cases inB a b <;> rfl)).mono ?_
      rintro e w9 ⟨rfl, hb⟩
      clear X10 X11
      clear X20 X21
      replace HB := hide (HB.out.trans ((hb).mono HB.out.size))
      replace X1 := hide (X1.out.step (hb))
      replace X2 := hide (X2.out.step (hb))
      replace NX := hide (NX.out.step (hb))
      clear hb
      have X10 := X1.out.cell0
      have X11 := X1.out.cell1
      have X20 := X2.out.cell0
      have X21 := X2.out.cell1
      go_wp2_with fail
      refine (det_out a b c d _ (by rw [HJ.out]; cases inB a b <;> rfl)).mono ?_
      rintro e w10 ⟨rfl, hb⟩
      clear X10 X11
      clear X20 X21
      replace HB := hide (HB.out.trans ((hb).mono HB.out.size))
      replace X1 := hide (X1.out.step (hb))
      replace X2 := hide (X2.out.step (hb))
      replace NX := hide (NX.out.step (hb))
      clear hb
      go_upto_region 11 with fail
      refine wp_calm (fun w' => Below w.heap.size w w' ∧ Box2 w' w.heap.size 23 (.int .i64 a) (.int .i64 b) ∧ Box2 w' (w.heap.size + 1) 23 (.int .i64 c) (.int .i64 d) ∧ Box2 w' gn 23 (.int .i64 (nA a b)) (.int .i64 (nB a b))) (fun _ => true) 8 #[false, false, false, false, false, false, false, false] (by kernel_rfl) rfl rfl ?_
      have HF := hide (And.intro HB.out.drew (And.intro X1.out.drew (And.intro X2.out.drew NX.out.drew)))
      generalize w10.drew = w10d at *
      refine Calm.take (i := 0) (v := ?_) (a' := ?_) (l' := #[true, false, false, false, false, false, false, false]) (d := some 86) rfl (by kernel_rfl) (by kernel_rfl) (by kernel_rfl) (by kernel_rfl) (fun _ _ _ h => h) HF.out rfl ?_ rfl rfl ?_ ?_
      rotate_left
      · intro w' hF; have f10 := hF.2.1.cell0; have f11 := hF.2.1.cell1; have f20 := hF.2.2.1.cell0; have f21 := hF.2.2.1.cell1; have f30 := hF.2.2.2.cell0; have f31 := hF.2.2.2.cell1; clear hF; go_simp; try rfl
      rotate_left
      · simp only [Act.put]; exact rfl
      refine Calm.take (i := 1) (v := ?_) (a' := ?_) (l' := #[true, true, false, false, false, false, false, false]) (d := some 87) rfl (by kernel_rfl) (by kernel_rfl) (by kernel_rfl) (by kernel_rfl) (fun _ _ _ h => h) HF.out rfl ?_ rfl rfl ?_ ?_
      rotate_left
      · intro w' hF; have f10 := hF.2.1.cell0; have f11 := hF.2.1.cell1; have f20 := hF.2.2.1.cell0; have f21 := hF.2.2.1.cell1; have f30 := hF.2.2.2.cell0; have f31 := hF.2.2.2.cell1; clear hF; go_simp; try rfl
      rotate_left
      · simp only [Act.put]; exact rfl
      refine Calm.one (i := 2) (l' := #[true, true, true, false, false, false, false, false]) (by kernel_rfl) rfl rfl rfl fun K hK => ?_
      go_simp
      refine (rnorm_any a b _ (in_yes HI.out).1.1 (in_yes HI.out).1.2 (in_yes HI.out).2.1 (in_yes HI.out).2.2).mono ?_
      rintro e w11 ⟨rfl, hb⟩
      have HF' := hide (And.intro (HF.out.1.trans ((hb).mono HF.out.1.size)) (And.intro (HF.out.2.1.step (hb)) (And.intro (HF.out.2.2.1.step (hb)) (HF.out.2.2.2.step (hb)))))
      refine hK _ _ (fun _ => HF'.out) ?_
      clear hK K HF hb
      have HF := hide HF'.out
      clear HF'
      refine Calm.take (i := 3) (v := ?_) (a' := ?_) (l' := #[true, true, true, true, false, false, false, false]) (d := some 89) rfl (by kernel_rfl) (by kernel_rfl) (by kernel_rfl) (by kernel_rfl) (fun _ _ _ h => h) HF.out rfl ?_ rfl rfl ?_ ?_
      rotate_left
      · intro w' hF; clear hF; go_simp; try rfl
      rotate_left
      · simp only [Act.put]; exact rfl
      refine Calm.take (i := 4) (v := ?_) (a' := ?_) (l' := #[true, true, true, true, true, false, false, false]) (d := some 90) rfl (by kernel_rfl) (by kernel_rfl) (by kernel_rfl) (by kernel_rfl) (fun _ _ _ h => h) HF.out rfl ?_ rfl rfl ?_ ?_
      rotate_left
      · intro w' hF; clear hF; go_simp; try rfl
      rotate_left
      · simp only [Act.put]; exact rfl
      refine Calm.take (i := 5) (v := ?_) (a' := ?_) (l' := #[true, true, true, true, true, true, false, false]) (d := some 91) rfl (by kernel_rfl) (by kernel_rfl) (by kernel_rfl) (by kernel_rfl) (fun _ _ _ h => h) HF.out (by kernel_rfl) ?_ rfl rfl ?_ ?_
      rotate_left
      · intro w' hF; clear hF; go_simp; try rfl
      rotate_left
      · simp only [Act.put]; exact rfl
      refine Calm.take (i := 6) (v := ?_) (a' := ?_) (l' := #[true, true, true, true, true, true, true, false]) (d := some 92) rfl (by kernel_rfl) (by kernel_rfl) (by kernel_rfl) (by kernel_rfl) (fun _ _ _ h => h) HF.out (by kernel_rfl) ?_ rfl rfl ?_ ?_
      rotate_left
      · intro w' hF; clear hF; go_simp; try rfl
      rotate_left
      · simp only [Act.put]; exact rfl
      refine Calm.take (i := 7) (v := ?_) (a' := ?_) (l' := #[true, true, true, true, true, true, true, true]) (d := some 93) rfl (by kernel_rfl) (by kernel_rfl) (by kernel_rfl) (by kernel_rfl) (fun _ _ _ h => h) HF.out rfl ?_ rfl rfl ?_ ?_
      rotate_left
      · intro w' hF; clear hF; go_simp; try rfl
      rotate_left
      · simp only [Act.put]; exact rfl
      refine Calm.done (by kernel_rfl) ?_
      replace HB := hide HF.out.1
      replace X1 := hide HF.out.2.1
      replace X2 := hide HF.out.2.2.1
      replace NX := hide HF.out.2.2.2
      clear HF
      have NX0 := NX.out.cell0
      have NX1 := NX.out.cell1
      go_wp2_with fail
      refine (norm_in (nA a b) (nB a b) _ (by unfold inB sm; simp only [Bool.and_eq_true, decide_eq_true_eq]; have k := HF1.out; exact ⟨⟨k.1, k.2.1⟩, k.2.2.1, k.2.2.2.1⟩)).mono ?_
      rintro e w12 ⟨rfl, hb⟩
      rw [HF1.out.2.2.2.2.1, HF1.out.2.2.2.2.2.1]
      clear NX0 NX1
      replace HB := hide (HB.out.trans ((hb).mono HB.out.size))
      replace X1 := hide (X1.out.step (hb))
      replace X2 := hide (X2.out.step (hb))
      replace NX := hide (NX.out.step (hb))
      clear hb
      go_upto_region 14 with fail
      have hb := below_alloc w12 (.cells #[.int .i64 (nA a b), .int .i64 (nB a b)] 23)
      replace HB := hide (HB.out.trans ((hb).mono HB.out.size))
      replace X1 := hide (X1.out.step (hb))
      replace X2 := hide (X2.out.step (hb))
      replace NX := hide (NX.out.step (hb))
      clear hb
      have AX := hide (Box2.new w12 23 (.int .i64 (nA a b)) (.int .i64 (nB a b)))
      generalize w12.alloc (.cells #[.int .i64 (nA a b), .int .i64 (nB a b)] 23) = w12a at *
      generalize w12.heap.size = ga at *
      have NX0 := NX.out.cell0
      have NX1 := NX.out.cell1
      have AX0 := AX.out.cell0
      have AX1 := AX.out.cell1
      go_wp2
      go_ret
      exact ⟨rfl, HB.out⟩
    | true =>
      have HO := hide (one_norm (in_yes HI.out).1.1 (in_yes HI.out).1.2 (in_yes HI.out).2.1 (in_yes HI.out).2.2 (in_yes HJ.out).1.1 (in_yes HJ.out).1.2 (in_yes HJ.out).2.1 (in_yes HJ.out).2.2)
      obtain ⟨s1, s2, _⟩ := det_small (in_yes HI.out).1.1 (in_yes HI.out).1.2 (in_yes HI.out).2.1 (in_yes HI.out).2.2 (in_yes HJ.out).1.1 (in_yes HJ.out).1.2 (in_yes HJ.out).2.1 (in_yes HJ.out).2.2
      have S1 := hide s1
      have S2 := hide s2
      clear s1 s2
      have HBK := hide (show detI c d a b = -detI a b c d from by unfold detI; omega)
      have X10 := X1.out.cell0
      have X11 := X1.out.cell1
      have X20 := X2.out.cell0
      have X21 := X2.out.cell1
      go_wp2_with fail
      refine (one_in a b c d _ HI.out HJ.out).mono ?_
      rintro e w9 ⟨rfl, hb⟩
      clear X10 X11
      clear X20 X21
      replace HB := hide (HB.out.trans ((hb).mono HB.out.size))
      replace X1 := hide (X1.out.step (hb))
      replace X2 := hide (X2.out.step (hb))
      replace NX := hide (NX.out.step (hb))
      clear hb
      have X10 := X1.out.cell0
      have X11 := X1.out.cell1
      have X20 := X2.out.cell0
      have X21 := X2.out.cell1
      go_wp2_with fail
      refine (det_in a b c d _ HI.out HJ.out).mono ?_
      rintro e w10 ⟨rfl, hb⟩
      clear X10 X11
      clear X20 X21
      replace HB := hide (HB.out.trans ((hb).mono HB.out.size))
      replace X1 := hide (X1.out.step (hb))
      replace X2 := hide (X2.out.step (hb))
      replace NX := hide (NX.out.step (hb))
      clear hb
      go_upto_region 11 with fail
      refine wp_calm (fun w' => Below w.heap.size w w' ∧ Box2 w' w.heap.size 23 (.int .i64 a) (.int .i64 b) ∧ Box2 w' (w.heap.size + 1) 23 (.int .i64 c) (.int .i64 d) ∧ Box2 w' gn 23 (.int .i64 (nA a b)) (.int .i64 (nB a b))) (fun _ => true) 8 #[false, false, false, false, false, false, false, false] (by kernel_rfl) rfl rfl ?_
      have HF := hide (And.intro HB.out.drew (And.intro X1.out.drew (And.intro X2.out.drew NX.out.drew)))
      generalize w10.drew = w10d at *
      refine Calm.take (i := 0) (v := ?_) (a' := ?_) (l' := #[true, false, false, false, false, false, false, false]) (d := some 86) rfl (by kernel_rfl) (by kernel_rfl) (by kernel_rfl) (by kernel_rfl) (fun _ _ _ h => h) HF.out rfl ?_ rfl rfl ?_ ?_
      rotate_left
      · intro w' hF; have f10 := hF.2.1.cell0; have f11 := hF.2.1.cell1; have f20 := hF.2.2.1.cell0; have f21 := hF.2.2.1.cell1; have f30 := hF.2.2.2.cell0; have f31 := hF.2.2.2.cell1; clear hF; go_simp; try rfl
      rotate_left
      · simp only [Act.put]; exact rfl
      refine Calm.take (i := 1) (v := ?_) (a' := ?_) (l' := #[true, true, false, false, false, false, false, false]) (d := some 87) rfl (by kernel_rfl) (by kernel_rfl) (by kernel_rfl) (by kernel_rfl) (fun _ _ _ h => h) HF.out rfl ?_ rfl rfl ?_ ?_
      rotate_left
      · intro w' hF; have f10 := hF.2.1.cell0; have f11 := hF.2.1.cell1; have f20 := hF.2.2.1.cell0; have f21 := hF.2.2.1.cell1; have f30 := hF.2.2.2.cell0; have f31 := hF.2.2.2.cell1; clear hF; go_simp; try rfl
      rotate_left
      · simp only [Act.put]; exact rfl
      refine Calm.one (i := 2) (l' := #[true, true, true, false, false, false, false, false]) (by kernel_rfl) rfl rfl rfl fun K hK => ?_
      go_simp
      refine (rnorm_any a b _ (in_yes HI.out).1.1 (in_yes HI.out).1.2 (in_yes HI.out).2.1 (in_yes HI.out).2.2).mono ?_
      rintro e w11 ⟨rfl, hb⟩
      have HF' := hide (And.intro (HF.out.1.trans ((hb).mono HF.out.1.size)) (And.intro (HF.out.2.1.step (hb)) (And.intro (HF.out.2.2.1.step (hb)) (HF.out.2.2.2.step (hb)))))
      refine hK _ _ (fun _ => HF'.out) ?_
      clear hK K HF hb
      have HF := hide HF'.out
      clear HF'
      refine Calm.take (i := 3) (v := ?_) (a' := ?_) (l' := #[true, true, true, true, false, false, false, false]) (d := some 89) rfl (by kernel_rfl) (by kernel_rfl) (by kernel_rfl) (by kernel_rfl) (fun _ _ _ h => h) HF.out rfl ?_ rfl rfl ?_ ?_
      rotate_left
      · intro w' hF; clear hF; go_simp; try rfl
      rotate_left
      · simp only [Act.put]; exact rfl
      refine Calm.take (i := 4) (v := ?_) (a' := ?_) (l' := #[true, true, true, true, true, false, false, false]) (d := some 90) rfl (by kernel_rfl) (by kernel_rfl) (by kernel_rfl) (by kernel_rfl) (fun _ _ _ h => h) HF.out rfl ?_ rfl rfl ?_ ?_
      rotate_left
      · intro w' hF; clear hF; go_simp; try rfl
      rotate_left
      · simp only [Act.put]; exact rfl
      refine Calm.take (i := 5) (v := ?_) (a' := ?_) (l' := #[true, true, true, true, true, true, false, false]) (d := some 91) rfl (by kernel_rfl) (by kernel_rfl) (by kernel_rfl) (by kernel_rfl) (fun _ _ _ h => h) HF.out (by kernel_rfl) ?_ rfl rfl ?_ ?_
      rotate_left
      · intro w' hF; clear hF; go_simp; try rfl
      rotate_left
      · simp only [Act.put]; exact rfl
      refine Calm.take (i := 6) (v := ?_) (a' := ?_) (l' := #[true, true, true, true, true, true, true, false]) (d := some 92) rfl (by kernel_rfl) (by kernel_rfl) (by kernel_rfl) (by kernel_rfl) (fun _ _ _ h => h) HF.out (by kernel_rfl) ?_ rfl rfl ?_ ?_
      rotate_left
      · intro w' hF; clear hF; go_simp; try rfl
      rotate_left
      · simp only [Act.put]; exact rfl
      refine Calm.take (i := 7) (v := ?_) (a' := ?_) (l' := #[true, true, true, true, true, true, true, true]) (d := some 93) rfl (by kernel_rfl) (by kernel_rfl) (by kernel_rfl) (by kernel_rfl) (fun _ _ _ h => h) HF.out rfl ?_ rfl rfl ?_ ?_
      rotate_left
      · intro w' hF; clear hF; go_simp; try rfl
      rotate_left
      · simp only [Act.put]; exact rfl
      refine Calm.done (by kernel_rfl) ?_
      replace HB := hide HF.out.1
      replace X1 := hide HF.out.2.1
      replace X2 := hide HF.out.2.2.1
      replace NX := hide HF.out.2.2.2
      clear HF
      have NX0 := NX.out.cell0
      have NX1 := NX.out.cell1
      go_wp2_with fail
      refine (norm_in (nA a b) (nB a b) _ (by unfold inB sm; simp only [Bool.and_eq_true, decide_eq_true_eq]; have k := HF1.out; exact ⟨⟨k.1, k.2.1⟩, k.2.2.1, k.2.2.2.1⟩)).mono ?_
      rintro e w12 ⟨rfl, hb⟩
      rw [HF1.out.2.2.2.2.1, HF1.out.2.2.2.2.2.1]
      clear NX0 NX1
      replace HB := hide (HB.out.trans ((hb).mono HB.out.size))
      replace X1 := hide (X1.out.step (hb))
      replace X2 := hide (X2.out.step (hb))
      replace NX := hide (NX.out.step (hb))
      clear hb
      go_upto_region 14 with fail
      have hb := below_alloc w12 (.cells #[.int .i64 (nA a b), .int .i64 (nB a b)] 23)
      replace HB := hide (HB.out.trans ((hb).mono HB.out.size))
      replace X1 := hide (X1.out.step (hb))
      replace X2 := hide (X2.out.step (hb))
      replace NX := hide (NX.out.step (hb))
      clear hb
      have AX := hide (Box2.new w12 23 (.int .i64 (nA a b)) (.int .i64 (nB a b)))
      generalize w12.alloc (.cells #[.int .i64 (nA a b), .int .i64 (nB a b)] 23) = w12a at *
      generalize w12.heap.size = ga at *
      have NX0 := NX.out.cell0
      have NX1 := NX.out.cell1
      have AX0 := AX.out.cell0
      have AX1 := AX.out.cell1
      have X10 := X1.out.cell0
      have X11 := X1.out.cell1
      have X20 := X2.out.cell0
      have X21 := X2.out.cell1
      go_wp2_with fail
      refine (det_in c d a b _ HJ.out HI.out).mono ?_
      rintro e w13 ⟨rfl, hb⟩
      rw [HBK.out]
      clear NX0 NX1 AX0 AX1 AX
      clear X10 X11
      clear X20 X21
      replace HB := hide (HB.out.trans ((hb).mono HB.out.size))
      replace X1 := hide (X1.out.step (hb))
      replace X2 := hide (X2.out.step (hb))
      replace NX := hide (NX.out.step (hb))
      clear hb
      have X10 := X1.out.cell0
      have X11 := X1.out.cell1
      have X20 := X2.out.cell0
      have X21 := X2.out.cell1
      go_wp2_with fail
      refine (norm_in c d _ HJ.out).mono ?_
      rintro e w14 ⟨rfl, hb⟩
      clear X10 X11
      clear X20 X21
      replace HB := hide (HB.out.trans ((hb).mono HB.out.size))
      replace X1 := hide (X1.out.step (hb))
      replace X2 := hide (X2.out.step (hb))
      replace NX := hide (NX.out.step (hb))
      clear hb
      go_upto_region 20 with fail
      have hb := below_alloc w14 (.cells #[.int .i64 (nA c d), .int .i64 (nB c d)] 23)
      replace HB := hide (HB.out.trans ((hb).mono HB.out.size))
      replace X1 := hide (X1.out.step (hb))
      replace X2 := hide (X2.out.step (hb))
      replace NX := hide (NX.out.step (hb))
      clear hb
      have MX := hide (Box2.new w14 23 (.int .i64 (nA c d)) (.int .i64 (nB c d)))
      generalize w14.alloc (.cells #[.int .i64 (nA c d), .int .i64 (nB c d)] 23) = w14a at *
      generalize w14.heap.size = gm at *
      have X10 := X1.out.cell0
      have X11 := X1.out.cell1
      have X20 := X2.out.cell0
      have X21 := X2.out.cell1
      go_wp2_with fail
      refine (rone_any a b c d _ HI.out HJ.out).mono ?_
      rintro e w15 ⟨rfl, hb⟩
      clear X10 X11
      clear X20 X21
      replace HB := hide (HB.out.trans ((hb).mono HB.out.size))
      replace X1 := hide (X1.out.step (hb))
      replace X2 := hide (X2.out.step (hb))
      replace NX := hide (NX.out.step (hb))
      replace MX := hide (MX.out.step (hb))
      clear hb
      have s1 := S1.out
      have s2 := S2.out
      have X10 := X1.out.cell0
      have X11 := X1.out.cell1
      have X20 := X2.out.cell0
      have X21 := X2.out.cell1
      go_wp2_with fail
      refine (rdet_any a b c d _ HI.out HJ.out).mono ?_
      rintro e w16 ⟨rfl, hb⟩
      clear X10 X11
      clear X20 X21
      replace HB := hide (HB.out.trans ((hb).mono HB.out.size))
      replace X1 := hide (X1.out.step (hb))
      replace X2 := hide (X2.out.step (hb))
      replace NX := hide (NX.out.step (hb))
      replace MX := hide (MX.out.step (hb))
      clear hb
      have NX0 := NX.out.cell0
      have NX1 := NX.out.cell1
      have MX0 := MX.out.cell0
      have MX1 := MX.out.cell1
      obtain ⟨z, hz⟩ : ∃ z, detI a b c d = z := ⟨_, rfl⟩
      rw [hz] at s1 s2 ⊢
      clear hz HBK S1 S2 HF1
      generalize nA a b = p at *
      generalize nB a b = q at *
      generalize nA c d = r at *
      generalize nB c d = s at *
      generalize oneB a b c d = t at *
      cases t with
      | true =>
        obtain ⟨rfl, rfl⟩ := HO.out.1 rfl
        go_wp2
        go_ret
        exact ⟨rfl, HB.out⟩
      | false =>
        have HN : Hid (¬ (r = p ∧ s = q)) := fun h => absurd (HO.out.2 h) (by decide)
        by_cases h1 : r = p
        · subst h1
          have h2 : ¬ s = q := fun h => HN.out ⟨rfl, h⟩
          go_wp2
          go_ret
          exact ⟨rfl, HB.out⟩
        · go_wp2
          go_ret
          exact ⟨rfl, HB.out⟩
end Go.Proofs.Ytpckbkiggjcblaa
