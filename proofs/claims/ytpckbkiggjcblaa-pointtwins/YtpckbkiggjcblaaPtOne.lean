/- Points: Det and One (the program's and the document's). -/
import Derived.Test.YtpckbkiggjcblaaPtDet
namespace Go.Proofs.Ytpckbkiggjcblaa
open Go.RowKit

set_option maxRecDepth 100000 in
set_option maxHeartbeats 1000000 in
theorem det_out (a b c d : Int) (w : World) (h : (inB a b && inB c d) = false) :
    Calls Try.prog 14 #[.agg #[.int .i64 a, .int .i64 b], .agg #[.int .i64 c, .int .i64 d]] w fun e w' => e = .returned (.tuple #[.int .i64 0, .int .i64 2]) ∧ Below w.heap.size w w' := by
  have HX := hide (nboxp 23 w (.int .i64 a) (.int .i64 b) (.int .i64 c) (.int .i64 d))
  have X1 := hide HX.out.1
  have X2 := hide HX.out.2.1
  have HB := hide HX.out.2.2
  clear HX
  go_enter Try.func14, Try.ntmps14
  go_wp2_with fail
  generalize (w.alloc (.cells #[.int .i64 a, .int .i64 b] 23)).alloc (.cells #[.int .i64 c, .int .i64 d] 23) = w0 at *
  refine (in_any a b _).mono ?_
  rintro e w1 ⟨rfl, hb⟩
  replace X1 := hide (X1.out.step hb)
  replace X2 := hide (X2.out.step hb)
  replace HB := hide (HB.out.trans (hb.mono HB.out.size))
  clear hb
  cases h1 : inB a b with
  | false =>
    go_wp2
    go_ret2
    exact ⟨rfl, HB.out⟩
  | true =>
    have h2 : inB c d = false := by simpa [h1] using h
    have c0 := X1.out.cell0
    have c1 := X1.out.cell1
    have d0 := X2.out.cell0
    have d1 := X2.out.cell1
    go_wp2_with fail
    refine (in_any c d _).mono ?_
    rintro e w2 ⟨rfl, hb⟩
    rw [h2]
    clear c0 c1 d0 d1
    replace X1 := hide (X1.out.step hb)
    replace X2 := hide (X2.out.step hb)
    replace HB := hide (HB.out.trans (hb.mono HB.out.size))
    clear hb
    go_wp2
    go_ret2
    exact ⟨rfl, HB.out⟩

set_option maxRecDepth 100000 in
set_option maxHeartbeats 1000000 in
theorem det_in (a b c d : Int) (w : World) (h : inB a b = true) (k : inB c d = true) :
    Calls Try.prog 14 #[.agg #[.int .i64 a, .int .i64 b], .agg #[.int .i64 c, .int .i64 d]] w fun e w' => e = .returned (.tuple #[.int .i64 (detI a b c d), .int .i64 0]) ∧ Below w.heap.size w w' := by
  obtain ⟨⟨ha, ha'⟩, hb0, hb'⟩ := in_yes h
  obtain ⟨⟨hc, hc'⟩, hd0, hd'⟩ := in_yes k
  obtain ⟨s1, s2, s3, s4, s5, s6⟩ := det_small ha ha' hb0 hb' hc hc' hd0 hd'
  have DE := hide (show detI a b c d = a * d - c * b from rfl)
  generalize detI a b c d = z at *
  have HX := hide (nboxp 23 w (.int .i64 a) (.int .i64 b) (.int .i64 c) (.int .i64 d))
  have X1 := hide HX.out.1
  have X2 := hide HX.out.2.1
  have HB := hide HX.out.2.2
  clear HX
  go_enter Try.func14, Try.ntmps14
  go_wp2_with fail
  generalize (w.alloc (.cells #[.int .i64 a, .int .i64 b] 23)).alloc (.cells #[.int .i64 c, .int .i64 d] 23) = w0 at *
  refine (in_any a b _).mono ?_
  rintro e w1 ⟨rfl, hb⟩
  rw [h]
  replace X1 := hide (X1.out.step hb)
  replace X2 := hide (X2.out.step hb)
  replace HB := hide (HB.out.trans (hb.mono HB.out.size))
  clear hb
  have c0 := X1.out.cell0
  have c1 := X1.out.cell1
  have d0 := X2.out.cell0
  have d1 := X2.out.cell1
  go_wp2_with fail
  refine (in_any c d _).mono ?_
  rintro e w2 ⟨rfl, hb⟩
  rw [k]
  clear c0 c1 d0 d1
  replace X1 := hide (X1.out.step hb)
  replace X2 := hide (X2.out.step hb)
  replace HB := hide (HB.out.trans (hb.mono HB.out.size))
  clear hb
  have c0 := X1.out.cell0
  have c1 := X1.out.cell1
  have d0 := X2.out.cell0
  have d1 := X2.out.cell1
  go_wp2
  go_ret2
  refine ⟨?_, HB.out⟩
  rw [DE.out]
  rfl

set_option maxRecDepth 100000 in
set_option maxHeartbeats 1000000 in
theorem rdet_any (a b c d : Int) (w : World) (h : inB a b = true) (k : inB c d = true) :
    Calls Try.prog 17 #[.agg #[.int .i64 a, .int .i64 b], .agg #[.int .i64 c, .int .i64 d]] w fun e w' => e = .returned (.int .i64 (detI a b c d)) ∧ Below w.heap.size w w' := by
  obtain ⟨⟨ha, ha'⟩, hb0, hb'⟩ := in_yes h
  obtain ⟨⟨hc, hc'⟩, hd0, hd'⟩ := in_yes k
  obtain ⟨s1, s2, s3, s4, s5, s6⟩ := det_small ha ha' hb0 hb' hc hc' hd0 hd'
  have DE := hide (show detI a b c d = a * d - c * b from rfl)
  generalize detI a b c d = z at *
  have HX := hide (nboxp 23 w (.int .i64 a) (.int .i64 b) (.int .i64 c) (.int .i64 d))
  have X1 := hide HX.out.1
  have X2 := hide HX.out.2.1
  have HB := hide HX.out.2.2
  clear HX
  go_enter Try.func17, Try.ntmps17
  go_wp2
  go_ret
  refine ⟨?_, HB.out⟩
  rw [DE.out]
  rfl

set_option maxRecDepth 100000 in
set_option maxHeartbeats 1000000 in
theorem rone_any (a b c d : Int) (w : World) (h : inB a b = true) (k : inB c d = true) :
    Calls Try.prog 16 #[.agg #[.int .i64 a, .int .i64 b], .agg #[.int .i64 c, .int .i64 d]] w fun e w' => e = .returned (.bool (oneB a b c d)) ∧ Below w.heap.size w w' := by
  rw [← oneR_eq]
  have HR : Hid (oneR a b c d = if noB a b || noB c d then noB a b && noB c d else decide (detI a b c d = 0)) := rfl
  generalize oneR a b c d = r at *
  have HX := hide (nboxp 23 w (.int .i64 a) (.int .i64 b) (.int .i64 c) (.int .i64 d))
  have X1 := hide HX.out.1
  have X2 := hide HX.out.2.1
  have HB := hide HX.out.2.2
  clear HX
  go_enter Try.func16, Try.ntmps16
  go_wp2_with fail
  generalize (w.alloc (.cells #[.int .i64 a, .int .i64 b] 23)).alloc (.cells #[.int .i64 c, .int .i64 d] 23) = w0 at *
  refine (rnone_any a b _).mono ?_
  rintro e w1 ⟨rfl, hb⟩
  replace X1 := hide (X1.out.step hb)
  replace X2 := hide (X2.out.step hb)
  replace HB := hide (HB.out.trans (hb.mono HB.out.size))
  clear hb
  have c0 := X1.out.cell0
  have c1 := X1.out.cell1
  have d0 := X2.out.cell0
  have d1 := X2.out.cell1
  obtain ⟨x, hx⟩ : ∃ x, noB a b = x := ⟨_, rfl⟩
  obtain ⟨y, hy⟩ : ∃ y, noB c d = y := ⟨_, rfl⟩
  rw [hx]
  rw [hx, hy] at HR
  have HX := hide hx
  have HY := hide hy
  clear hx hy
  cases x with
  | true =>
    go_wp2_with fail
    refine (rnone_any a b _).mono ?_
    rintro e w2 ⟨rfl, hb⟩
    rw [HX.out]
    clear c0 c1 d0 d1
    replace X1 := hide (X1.out.step hb)
    replace X2 := hide (X2.out.step hb)
    replace HB := hide (HB.out.trans (hb.mono HB.out.size))
    clear hb
    have c0 := X1.out.cell0
    have c1 := X1.out.cell1
    have d0 := X2.out.cell0
    have d1 := X2.out.cell1
    go_wp2_with fail
    refine (rnone_any c d _).mono ?_
    rintro e w3 ⟨rfl, hb⟩
    rw [HY.out]
    clear c0 c1 d0 d1
    replace X1 := hide (X1.out.step hb)
    replace X2 := hide (X2.out.step hb)
    replace HB := hide (HB.out.trans (hb.mono HB.out.size))
    clear hb
    go_wp2
    go_ret
    refine ⟨?_, HB.out⟩
    rw [HR.out]; rfl
  | false =>
    go_wp2_with fail
    refine (rnone_any c d _).mono ?_
    rintro e w2 ⟨rfl, hb⟩
    rw [HY.out]
    clear c0 c1 d0 d1
    replace X1 := hide (X1.out.step hb)
    replace X2 := hide (X2.out.step hb)
    replace HB := hide (HB.out.trans (hb.mono HB.out.size))
    clear hb
    have c0 := X1.out.cell0
    have c1 := X1.out.cell1
    have d0 := X2.out.cell0
    have d1 := X2.out.cell1
    cases y with
    | true =>
      go_wp2_with fail
      refine (rnone_any a b _).mono ?_
      rintro e w3 ⟨rfl, hb⟩
      rw [HX.out]
      clear c0 c1 d0 d1
      replace X1 := hide (X1.out.step hb)
      replace X2 := hide (X2.out.step hb)
      replace HB := hide (HB.out.trans (hb.mono HB.out.size))
      clear hb
      go_wp2
      go_ret
      refine ⟨?_, HB.out⟩
      rw [HR.out]; rfl
    | false =>
      go_wp2_with fail
      refine (rdet_any a b c d _ h k).mono ?_
      rintro e w3 ⟨rfl, hb⟩
      clear c0 c1 d0 d1
      replace X1 := hide (X1.out.step hb)
      replace X2 := hide (X2.out.step hb)
      replace HB := hide (HB.out.trans (hb.mono HB.out.size))
      clear hb
      go_wp2
      go_ret
      refine ⟨?_, HB.out⟩
      rw [HR.out]
      show _ = Ending.returned (.bool (decide (detI a b c d = 0)))
      by_cases hz : detI a b c d = 0
      · simp [hz]
      · simp [hz]

set_option maxRecDepth 100000 in
set_option maxHeartbeats 1000000 in
theorem one_out (a b c d : Int) (w : World) (h : (inB a b && inB c d) = false) :
    Calls Try.prog 13 #[.agg #[.int .i64 a, .int .i64 b], .agg #[.int .i64 c, .int .i64 d]] w fun e w' => e = .returned (.tuple #[.bool false, .int .i64 2]) ∧ Below w.heap.size w w' := by
  have HX := hide (nboxp 23 w (.int .i64 a) (.int .i64 b) (.int .i64 c) (.int .i64 d))
  have X1 := hide HX.out.1
  have X2 := hide HX.out.2.1
  have HB := hide HX.out.2.2
  clear HX
  go_enter Try.func13, Try.ntmps13
  go_wp2_with fail
  generalize (w.alloc (.cells #[.int .i64 a, .int .i64 b] 23)).alloc (.cells #[.int .i64 c, .int .i64 d] 23) = w0 at *
  refine (det_out a b c d _ h).mono ?_
  rintro e w1 ⟨rfl, hb⟩
  replace X1 := hide (X1.out.step hb)
  replace X2 := hide (X2.out.step hb)
  replace HB := hide (HB.out.trans (hb.mono HB.out.size))
  clear hb
  go_wp2
  go_ret2
  exact ⟨rfl, HB.out⟩

set_option maxRecDepth 100000 in
set_option maxHeartbeats 2000000 in
theorem one_in (a b c d : Int) (w : World) (h : inB a b = true) (k : inB c d = true) :
    Calls Try.prog 13 #[.agg #[.int .i64 a, .int .i64 b], .agg #[.int .i64 c, .int .i64 d]] w fun e w' => e = .returned (.tuple #[.bool (oneB a b c d), .int .i64 0]) ∧ Below w.heap.size w w' := by
  have HR : Hid (oneB a b c d = (decide (detI a b c d = 0) && (noB a b == noB c d))) := rfl
  generalize oneB a b c d = r at *
  have HX := hide (nboxp 23 w (.int .i64 a) (.int .i64 b) (.int .i64 c) (.int .i64 d))
  have X1 := hide HX.out.1
  have X2 := hide HX.out.2.1
  have HB := hide HX.out.2.2
  clear HX
  go_enter Try.func13, Try.ntmps13
  go_wp2_with fail
  generalize (w.alloc (.cells #[.int .i64 a, .int .i64 b] 23)).alloc (.cells #[.int .i64 c, .int .i64 d] 23) = w0 at *
  refine (det_in a b c d _ h k).mono ?_
  rintro e w1 ⟨rfl, hb⟩
  replace X1 := hide (X1.out.step hb)
  replace X2 := hide (X2.out.step hb)
  replace HB := hide (HB.out.trans (hb.mono HB.out.size))
  clear hb
  generalize detI a b c d = z at *
  obtain ⟨x, hx⟩ : ∃ x, noB a b = x := ⟨_, rfl⟩
  obtain ⟨y, hy⟩ : ∃ y, noB c d = y := ⟨_, rfl⟩
  rw [hx, hy] at HR
  have HX := hide hx
  have HY := hide hy
  clear hx hy
  by_cases hz : z = 0
  · subst hz
    go_upto_region 4 with fail
    refine wp_calm (fun w' => Below w.heap.size w w' ∧ Box2 w' w.heap.size 23 (.int .i64 a) (.int .i64 b) ∧ Box2 w' (w.heap.size + 1) 23 (.int .i64 c) (.int .i64 d)) (fun _ => true) 11 #[false, false, false, false, false, false, false, false, false, false, false] (by kernel_rfl) rfl rfl ?_
    have HF := hide (And.intro HB.out.drew (And.intro X1.out.drew X2.out.drew))
    generalize w1.drew = w1d at *
    refine Calm.take (i := 0) (v := ?_) (a' := ?_) (l' := #[true, false, false, false, false, false, false, false, false, false, false]) (d := some 17) rfl (by kernel_rfl) (by kernel_rfl) (by kernel_rfl) (by kernel_rfl) (fun _ _ _ h => h) HF.out rfl ?_ rfl rfl ?_ ?_
    rotate_left
    · intro w' hF; clear hF; go_simp; try rfl
    rotate_left
    · simp only [Act.put]; exact rfl
    refine Calm.take (i := 1) (v := ?_) (a' := ?_) (l' := #[true, true, false, false, false, false, false, false, false, false, false]) (d := some 18) rfl (by kernel_rfl) (by kernel_rfl) (by kernel_rfl) (by kernel_rfl) (fun _ _ _ h => h) HF.out rfl ?_ rfl rfl ?_ ?_
    rotate_left
    · intro w' hF; clear hF; go_simp; try rfl
    rotate_left
    · simp only [Act.put]; exact rfl
    refine Calm.take (i := 2) (v := ?_) (a' := ?_) (l' := #[true, true, true, false, false, false, false, false, false, false, false]) (d := some 19) rfl (by kernel_rfl) (by kernel_rfl) (by kernel_rfl) (by kernel_rfl) (fun _ _ _ h => h) HF.out rfl ?_ rfl rfl ?_ ?_
    rotate_left
    · intro w' hF; clear hF; go_simp; try rfl
    rotate_left
    · simp only [Act.put]; exact rfl
    refine Calm.take (i := 3) (v := ?_) (a' := ?_) (l' := #[true, true, true, true, false, false, false, false, false, false, false]) (d := some 20) rfl (by kernel_rfl) (by kernel_rfl) (by kernel_rfl) (by kernel_rfl) (fun _ _ _ h => h) HF.out (by kernel_rfl) ?_ rfl rfl ?_ ?_
    rotate_left
    · intro w' hF; have f10 := hF.2.1.cell0; have f11 := hF.2.1.cell1; have f20 := hF.2.2.cell0; have f21 := hF.2.2.cell1; clear hF; go_simp; try rfl
    rotate_left
    · simp only [Act.put]; exact rfl
    refine Calm.take (i := 5) (v := ?_) (a' := ?_) (l' := #[true, true, true, true, false, true, false, false, false, false, false]) (d := some 22) rfl (by kernel_rfl) (by kernel_rfl) (by kernel_rfl) (by kernel_rfl) (fun _ _ _ h => h) HF.out (by kernel_rfl) ?_ rfl rfl ?_ ?_
    rotate_left
    · intro w' hF; have f10 := hF.2.1.cell0; have f11 := hF.2.1.cell1; have f20 := hF.2.2.cell0; have f21 := hF.2.2.cell1; clear hF; go_simp; try rfl
    rotate_left
    · simp only [Act.put]; exact rfl
    refine Calm.one (i := 4) (l' := #[true, true, true, true, true, true, false, false, false, false, false]) (by kernel_rfl) rfl (by kernel_rfl) rfl fun K hK => ?_
    go_simp
    refine (none_any a b _).mono ?_
    rintro e w2 ⟨rfl, hb⟩
    rw [HX.out]
    have HF' := hide (And.intro (HF.out.1.trans ((hb).mono HF.out.1.size)) (And.intro (HF.out.2.1.step (hb)) (HF.out.2.2.step (hb))))
    refine hK _ _ (fun _ => HF'.out) ?_
    clear hK K HF hb
    have HF := hide HF'.out
    clear HF'
    refine Calm.one (i := 6) (l' := #[true, true, true, true, true, true, true, false, false, false, false]) (by kernel_rfl) rfl (by kernel_rfl) rfl fun K hK => ?_
    go_simp
    refine (none_any c d _).mono ?_
    rintro e w3 ⟨rfl, hb⟩
    rw [HY.out]
    have HF' := hide (And.intro (HF.out.1.trans ((hb).mono HF.out.1.size)) (And.intro (HF.out.2.1.step (hb)) (HF.out.2.2.step (hb))))
    refine hK _ _ (fun _ => HF'.out) ?_
    clear hK K HF hb
    have HF := hide HF'.out
    clear HF'
    refine Calm.take (i := 7) (v := ?_) (a' := ?_) (l' := #[true, true, true, true, true, true, true, true, false, false, false]) (d := some 24) rfl (by kernel_rfl) (by kernel_rfl) (by kernel_rfl) (by kernel_rfl) (fun _ _ _ h => h) HF.out (by kernel_rfl) ?_ rfl rfl ?_ ?_
    rotate_left
    · intro w' hF; clear hF; go_simp; try rfl
    rotate_left
    · simp only [Act.put]; exact rfl
    refine Calm.take (i := 8) (v := ?_) (a' := ?_) (l' := #[true, true, true, true, true, true, true, true, true, false, false]) (d := some 25) rfl (by kernel_rfl) (by kernel_rfl) (by kernel_rfl) (by kernel_rfl) (fun _ _ _ h => h) HF.out rfl ?_ rfl rfl ?_ ?_
    rotate_left
    · intro w' hF; clear hF; go_simp; try rfl
    rotate_left
    · simp only [Act.put]; exact rfl
    refine Calm.take (i := 9) (v := ?_) (a' := ?_) (l' := #[true, true, true, true, true, true, true, true, true, true, false]) (d := some 4) rfl (by kernel_rfl) (by kernel_rfl) (by kernel_rfl) (by kernel_rfl) (fun _ _ _ h => h) HF.out rfl ?_ rfl rfl ?_ ?_
    rotate_left
    · intro w' hF; clear hF; go_simp; try rfl
    rotate_left
    · simp only [Act.put]; exact rfl
    refine Calm.take (i := 10) (v := ?_) (a' := ?_) (l' := #[true, true, true, true, true, true, true, true, true, true, true]) (d := some 5) rfl (by kernel_rfl) (by kernel_rfl) (by kernel_rfl) (by kernel_rfl) (fun _ _ _ h => h) HF.out rfl ?_ rfl rfl ?_ ?_
    rotate_left
    · intro w' hF; clear hF; go_simp; try rfl
    rotate_left
    · simp only [Act.put]; exact rfl
    refine Calm.done (by kernel_rfl) ?_
    clear X1 X2 HB
    go_wp2
    go_ret2
    refine ⟨?_, HF.out.1⟩
    rw [HR.out]; rfl
  · rw [decide_eq_false hz, Bool.false_and] at HR
    go_wp2
    go_quiet (fail)
    go_wp2
    go_ret2
    refine ⟨?_, below_drewN HB.out _⟩
    rw [HR.out]; rfl
end Go.Proofs.Ytpckbkiggjcblaa
