/- Points: Det and One (the program's and the document's). -/
import Derived.Test.YtapodkjmhenceaaPtDet
import Derived.BigQuiet
import Derived.WalkSmall
import Derived.Deep.QuietTactic
import Derived.Deep.RegionWith
import Derived.Deep.Cut
import Derived.RegionTactic
namespace Go.Proofs.Ytapodkjmhenceaa
open Go.RowKit

set_option maxRecDepth 100000 in
set_option maxHeartbeats 1000000 in
theorem det_in (a b c d : Int) (w : World) (h : inB a b = true) (k : inB c d = true) :
    Calls Try.prog 125 #[.agg #[.int .i64 a, .int .i64 b], .agg #[.int .i64 c, .int .i64 d]] w fun e w' => e = .returned (.tuple #[.int .i64 (detI a b c d), .int .i64 0]) ∧ Below w.heap.size w w' := by
  obtain ⟨⟨ha, ha'⟩, hb0, hb'⟩ := in_yes h
  obtain ⟨⟨hc, hc'⟩, hd0, hd'⟩ := in_yes k
  obtain ⟨s1, s2, s3, s4, s5, s6⟩ := det_small ha ha' hb0 hb' hc hc' hd0 hd'
  have DE := hide (show detI a b c d = a * d - c * b from rfl)
  generalize detI a b c d = z at *
  have HX := hide (nboxp 61 w (.int .i64 a) (.int .i64 b) (.int .i64 c) (.int .i64 d))
  have X1 := hide HX.out.1
  have X2 := hide HX.out.2.1
  have HB := hide HX.out.2.2
  clear HX
  go_enter Try.func125, Try.ntmps125
  go_wp2_with fail
  generalize (w.alloc (.cells #[.int .i64 a, .int .i64 b] 61)).alloc (.cells #[.int .i64 c, .int .i64 d] 61) = w0 at *
  refine (in_any a b _).mono ?_
  rintro e w1 ⟨rfl, hb⟩
  rw [h]
  replace X1 := hide (X1.out.step hb)
  replace X2 := hide (X2.out.step hb)
  replace HB := hide (HB.out.trans (hb.mono HB.out.size))
  clear hb
  have c0 := X1.out.cell0
  have c1 := X1.out.cell1
  have d0 := X2.out.cell0
  have d1 := X2.out.cell1
  go_wp2_with fail
  refine (in_any c d _).mono ?_
  rintro e w2 ⟨rfl, hb⟩
  rw [k]
  clear c0 c1 d0 d1
  replace X1 := hide (X1.out.step hb)
  replace X2 := hide (X2.out.step hb)
  replace HB := hide (HB.out.trans (hb.mono HB.out.size))
  clear hb
  have c0 := X1.out.cell0
  have c1 := X1.out.cell1
  have d0 := X2.out.cell0
  have d1 := X2.out.cell1
  go_wp2
  go_ret2
  refine ⟨?_, HB.out⟩
  rw [DE.out]
  rfl

set_option maxRecDepth 100000 in
set_option maxHeartbeats 1000000 in
theorem rdet_any (a b c d : Int) (w : World) (h : inB a b = true) (k : inB c d = true) :
    Calls Try.prog 88 #[.agg #[.int .i64 a, .int .i64 b], .agg #[.int .i64 c, .int .i64 d]] w fun e w' => e = .returned (.int .i64 (detI a b c d)) ∧ Below w.heap.size w w' := by
  obtain ⟨⟨ha, ha'⟩, hb0, hb'⟩ := in_yes h
  obtain ⟨⟨hc, hc'⟩, hd0, hd'⟩ := in_yes k
  obtain ⟨s1, s2, s3, s4, s5, s6⟩ := det_small ha ha' hb0 hb' hc hc' hd0 hd'
  have DE := hide (show detI a b c d = a * d - c * b from rfl)
  generalize detI a b c d = z at *
  have HX := hide (nboxp 61 w (.int .i64 a) (.int .i64 b) (.int .i64 c) (.int .i64 d))
  have X1 := hide HX.out.1
  have X2 := hide HX.out.2.1
  have HB := hide HX.out.2.2
  clear HX
  go_enter Try.func88, Try.ntmps88
  go_wp2
  go_ret
  refine ⟨?_, HB.out⟩
  rw [DE.out]
  rfl

set_option maxRecDepth 100000 in
set_option maxHeartbeats 1000000 in
theorem rone_any (a b c d : Int) (w : World) (h : inB a b = true) (k : inB c d = true) :
    Calls Try.prog 124 #[.agg #[.int .i64 a, .int .i64 b], .agg #[.int .i64 c, .int .i64 d]] w fun e w' => e = .returned (.bool (oneB a b c d)) ∧ Below w.heap.size w w' := by
  rw [← oneR_eq]
  have HR : Hid (oneR a b c d = if noB a b || noB c d then noB a b && noB c d else decide (detI a b c d = 0)) := rfl
  generalize oneR a b c d = r at *
  have HX := hide (nboxp 61 w (.int .i64 a) (.int .i64 b) (.int .i64 c) (.int .i64 d))
  have X1 := hide HX.out.1
  have X2 := hide HX.out.2.1
  have HB := hide HX.out.2.2
  clear HX
  go_enter Try.func124, Try.ntmps124
  go_wp2_with fail
  generalize (w.alloc (.cells #[.int .i64 a, .int .i64 b] 61)).alloc (.cells #[.int .i64 c, .int .i64 d] 61) = w0 at *
  refine (rnone_any a b _).mono ?_
  rintro e w1 ⟨rfl, hb⟩
  replace X1 := hide (X1.out.step hb)
  replace X2 := hide (X2.out.step hb)
  replace HB := hide (HB.out.trans (hb.mono HB.out.size))
  clear hb
  have c0 := X1.out.cell0
  have c1 := X1.out.cell1
  have d0 := X2.out.cell0
  have d1 := X2.out.cell1
  obtain ⟨x, hx⟩ : ∃ x, noB a b = x := ⟨_, rfl⟩
  obtain ⟨y, hy⟩ : ∃ y, noB c d = y := ⟨_, rfl⟩
  rw [hx]
  rw [hx, hy] at HR
  have HX := hide hx
  have HY := hide hy
  clear hx hy
  cases x with
  | true =>
    go_wp2_with fail
    refine (rnone_any a b _).mono ?_
    rintro e w2 ⟨rfl, hb⟩
    rw [HX.out]
    clear c0 c1 d0 d1
    replace X1 := hide (X1.out.step hb)
    replace X2 := hide (X2.out.step hb)
    replace HB := hide (HB.out.trans (hb.mono HB.out.size))
    clear hb
    have c0 := X1.out.cell0
    have c1 := X1.out.cell1
    have d0 := X2.out.cell0
    have d1 := X2.out.cell1
    go_wp2_with fail
    refine (rnone_any c d _).mono ?_
    rintro e w3 ⟨rfl, hb⟩
    rw [HY.out]
    clear c0 c1 d0 d1
    replace X1 := hide (X1.out.step hb)
    replace X2 := hide (X2.out.step hb)
    replace HB := hide (HB.out.trans (hb.mono HB.out.size))
    clear hb
    go_wp2
    go_ret
    refine ⟨?_, HB.out⟩
    rw [HR.out]; rfl
  | false =>
    go_wp2_with fail
    refine (rnone_any c d _).mono ?_
    rintro e w2 ⟨rfl, hb⟩
    rw [HY.out]
    clear c0 c1 d0 d1
    replace X1 := hide (X1.out.step hb)
    replace X2 := hide (X2.out.step hb)
    replace HB := hide (HB.out.trans (hb.mono HB.out.size))
    clear hb
    have c0 := X1.out.cell0
    have c1 := X1.out.cell1
    have d0 := X2.out.cell0
    have d1 := X2.out.cell1
    cases y with
    | true =>
      go_wp2_with fail
      refine (rnone_any a b _).mono ?_
      rintro e w3 ⟨rfl, hb⟩
      rw [HX.out]
      clear c0 c1 d0 d1
      replace X1 := hide (X1.out.step hb)
      replace X2 := hide (X2.out.step hb)
      replace HB := hide (HB.out.trans (hb.mono HB.out.size))
      clear hb
      go_wp2
      go_ret
      refine ⟨?_, HB.out⟩
      rw [HR.out]; rfl
    | false =>
      go_wp2_with fail
      refine (rdet_any a b c d _ h k).mono ?_
      rintro e w3 ⟨rfl, hb⟩
      clear c0 c1 d0 d1
      replace X1 := hide (X1.out.step hb)
      replace X2 := hide (X2.out.step hb)
      replace HB := hide (HB.out.trans (hb.mono HB.out.size))
      clear hb
      go_wp2
      go_ret
      refine ⟨?_, HB.out⟩
      rw [HR.out]
      show _ = Ending.returned (.bool (decide (detI a b c d = 0)))
      by_cases hz : detI a b c d = 0
      · simp [hz]
      · simp [hz]


end Go.Proofs.Ytapodkjmhenceaa
