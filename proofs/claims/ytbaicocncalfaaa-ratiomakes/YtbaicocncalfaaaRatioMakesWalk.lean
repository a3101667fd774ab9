/- swagelaw03.RatioMakes answers true at all texts, and turns nothing that was there. -/
import Derived.Test.YtbaicocncalfaaaR3Text
import Derived.Test.YtbaicocncalfaaaRLong2
import Derived.Test.YtbaicocncalfaaaRWorks
import Derived.Deep.Cut
namespace Go.Proofs.Ytbaicocncalfaaa
open Go.RowKit

theorem sz_floor {k : Nat} {x : Rat} (h : SzI k x.num) : SzI k x.floor := by
  rw [Rat.floor_def]; exact Nat.lt_of_le_of_lt (Int.natAbs_ediv_le_natAbs _ _) h
theorem szr_int {z : Int} (h : SzI 65536 z) : SzR 400000 (z : Rat) := ⟨h.mono (by decide), SzI.one.mono (by decide)⟩
theorem szr_zero4 : SzR 400000 (0 : Rat) := SzR.zero.mono (by decide)

set_option maxRecDepth 100000 in
set_option maxHeartbeats 16000000 in
theorem rmakes_walk (a b : ByteArray) (w : World) (la : a.size ≤ 9223372036854775807) (lb : b.size ≤ 9223372036854775807) :
    Calls Try.prog 3 #[.agg #[.string a, .string b]] w fun e w' => e = .returned (.bool true) ∧ Below w.heap.size w w' := by
  have LA := hide la
  have LB := hide lb
  clear la lb
  have P0 := BoxF.new w (.string a) (.string b)
  replace P0 := hide P0
  have HB := below_alloc w (.cells #[.string a, .string b] 23)
  replace HB := hide HB
  go_enter Try.func3, Try.ntmps3
  go_wp2_with fail
  generalize (w.alloc (.cells #[.string a, .string b] 23)) = w0 at *
  refine (works3_any _).mono ?_
  rintro e u1 ⟨rfl, hb⟩
  replace P0 := hide (P0.out.step (hb))
  replace HB := hide (HB.out.trans ((hb).mono HB.out.size))
  clear hb
  have hP00 := P0.out.cell0
  have hP01 := P0.out.cell1
  have lt0 := P0.out.lt
  go_wp2_with fail
  clear lt0
  clear hP00 hP01
  have al := below_alloc u1 (.cells #[.string a, .string b] 23)
  have FL := hide (fracL1 (w := u1) (t := 23) LA.out LB.out)
  replace P0 := hide (P0.out.step (al))
  replace HB := hide (HB.out.trans ((al).mono HB.out.size))
  clear al
  generalize u1.alloc (.cells #[.string a, .string b] 23) = u1a at *
  generalize u1.heap.size = gl at *
  refine (longL_any _ [(a, b)] _ FL.out).mono ?_
  rintro e u2 ⟨⟨r, rfl, hr⟩, hb⟩
  have HR := hide hr
  replace P0 := hide (P0.out.step (hb))
  replace HB := hide (HB.out.trans ((hb).mono HB.out.size))
  clear hb hr FL
  cases r with
  | true =>
    go_wp2
    go_ret
    exact ⟨rfl, HB.out⟩
  | false =>
  have SA : Hid (a.size ≤ 300) := hide ((HR.out rfl).2 0 (by simp)).1
  have SB : Hid (b.size ≤ 300) := hide ((HR.out rfl).2 0 (by simp)).2
  clear HR
  have hP00 := P0.out.cell0
  have hP01 := P0.out.cell1
  go_wp2_with fail
  clear hP00 hP01
  refine (numbers_any a b _ SA.out SB.out).mono ?_
  rintro e u3 ⟨⟨v1, v2, v3, v4, z1, z2, z3, z4, ok, rfl, k1, k2, k3, k4, hk⟩, hb⟩
  have HK := hide hk
  obtain ⟨s1, m1, n1, c1, rfl, j1⟩ := k1.cells
  have I1 := hide j1
  obtain ⟨s2, m2, n2, c2, rfl, j2⟩ := k2.cells
  have I2 := hide j2
  obtain ⟨s3, m3, n3, c3, rfl, j3⟩ := k3.cells
  have I3 := hide j3
  obtain ⟨s4, m4, n4, c4, rfl, j4⟩ := k4.cells
  have I4 := hide j4
  replace P0 := hide (P0.out.step (hb))
  replace HB := hide (HB.out.trans ((hb).mono HB.out.size))
  clear hb hk k1 j1 k2 j2 k3 j3 k4 j4
  go_upto_region 6 with fail
  have V1 := Box.new u3 (.bool s1) (.slice m1 n1 c1)
  replace V1 := V1.step (below_alloc _ (.cells #[.bool s2, .slice m2 n2 c2] 28))
  replace V1 := V1.step (below_alloc _ (.cells #[.bool s3, .slice m3 n3 c3] 30))
  replace V1 := V1.step (below_alloc _ (.cells #[.bool s4, .slice m4 n4 c4] 30))
  replace V1 := hide V1
  have V2 := Box.new (u3.alloc (.cells #[.bool s1, .slice m1 n1 c1] 28)) (.bool s2) (.slice m2 n2 c2)
  simp only [World.size_alloc] at V2
  replace V2 := V2.step (below_alloc _ (.cells #[.bool s3, .slice m3 n3 c3] 30))
  replace V2 := V2.step (below_alloc _ (.cells #[.bool s4, .slice m4 n4 c4] 30))
  replace V2 := hide V2
  have V3 := BoxR.new ((u3.alloc (.cells #[.bool s1, .slice m1 n1 c1] 28)).alloc (.cells #[.bool s2, .slice m2 n2 c2] 28)) (.bool s3) (.slice m3 n3 c3)
  simp only [World.size_alloc] at V3
  replace V3 := V3.step (below_alloc _ (.cells #[.bool s4, .slice m4 n4 c4] 30))
  replace V3 := hide V3
  have V4 := BoxR.new (((u3.alloc (.cells #[.bool s1, .slice m1 n1 c1] 28)).alloc (.cells #[.bool s2, .slice m2 n2 c2] 28)).alloc (.cells #[.bool s3, .slice m3 n3 c3] 30)) (.bool s4) (.slice m4 n4 c4)
  simp only [World.size_alloc] at V4
  replace V4 := hide V4
  have al := below_alloc u3 (.cells #[.bool s1, .slice m1 n1 c1] 28)
  replace al := al.trans ((below_alloc _ (.cells #[.bool s2, .slice m2 n2 c2] 28)).mono (by simp only [World.size_alloc]; omega))
  replace al := al.trans ((below_alloc _ (.cells #[.bool s3, .slice m3 n3 c3] 30)).mono (by simp only [World.size_alloc]; omega))
  replace al := al.trans ((below_alloc _ (.cells #[.bool s4, .slice m4 n4 c4] 30)).mono (by simp only [World.size_alloc]; omega))
  replace P0 := hide (P0.out.step (al))
  replace HB := hide (HB.out.trans ((al).mono HB.out.size))
  replace I1 := hide (I1.out.below (al))
  replace I2 := hide (I2.out.below (al))
  replace I3 := hide (I3.out.below (al))
  replace I4 := hide (I4.out.below (al))
  clear al
  generalize ((((u3.alloc (.cells #[.bool s1, .slice m1 n1 c1] 28)).alloc (.cells #[.bool s2, .slice m2 n2 c2] 28)).alloc (.cells #[.bool s3, .slice m3 n3 c3] 30)).alloc (.cells #[.bool s4, .slice m4 n4 c4] 30)) = u3a at *
  generalize u3.heap.size = g1 at *
  cases ok with
  | false =>
    go_wp2
    go_ret
    exact ⟨rfl, HB.out⟩
  | true =>
  obtain ⟨rfl, rfl, S3, S4⟩ := HK.out rfl
  have Z3 := hide S3
  have Z4 := hide S4
  clear HK S3 S4
  have LTS : Hid True := hide trivial
  have hV10 := V1.out.cell0
  have hV11 := V1.out.cell1
  have hV20 := V2.out.cell0
  have hV21 := V2.out.cell1
  go_wp2_with fail
  clear hV10 hV11
  clear hV20 hV21
  by_cases hz : z2 = 0
  · have HZ := hide hz
    refine (rtmake_zero _ _ z1 z2 _ I1.out I2.out HZ.out).mono ?_
    rintro e u4 ⟨v, rfl, kx, hb⟩
    obtain ⟨s5, m5, n5, c5, t5, o5, p5, d5, rfl, ky⟩ := kx.cells
    replace P0 := hide (P0.out.step (hb))
    replace HB := hide (HB.out.trans ((hb).mono HB.out.size))
    replace I1 := hide (I1.out.below (hb))
    replace I2 := hide (I2.out.below (hb))
    replace I3 := hide (I3.out.below (hb))
    replace I4 := hide (I4.out.below (hb))
    replace V1 := hide (V1.out.step (hb))
    replace V2 := hide (V2.out.step (hb))
    replace V3 := hide (V3.out.step (hb))
    replace V4 := hide (V4.out.step (hb))
    have I5 := hide (ky)
    clear hb kx ky hz
    go_upto_region 9 with fail
    have al := below_alloc u4 (.cells #[.bool s5, .slice m5 n5 c5, .bool t5, .slice o5 p5 d5] 34)
    replace P0 := hide (P0.out.step (al))
    replace HB := hide (HB.out.trans ((al).mono HB.out.size))
    replace I1 := hide (I1.out.below (al))
    replace I2 := hide (I2.out.below (al))
    replace I3 := hide (I3.out.below (al))
    replace I4 := hide (I4.out.below (al))
    replace V1 := hide (V1.out.step (al))
    replace V2 := hide (V2.out.step (al))
    replace V3 := hide (V3.out.step (al))
    replace V4 := hide (V4.out.step (al))
    replace I5 := hide (I5.out.below (al))
    have V5 := hide (Box4.new u4 (.bool s5) (.slice m5 n5 c5) (.bool t5) (.slice o5 p5 d5))
    clear al
    generalize u4.alloc (.cells #[.bool s5, .slice m5 n5 c5, .bool t5, .slice o5 p5 d5] 34) = u4a at *
    generalize u4.heap.size = g5 at *
    refine wp_calm (fun w' => Below w.heap.size w w' ∧ Box w' g1 (.bool s1) (.slice m1 n1 c1) ∧ BoxR w' (g1 + 1 + 1) (.bool s3) (.slice m3 n3 c3) ∧ BoxR w' (g1 + 1 + 1 + 1) (.bool s4) (.slice m4 n4 c4) ∧ Box4 w' g5 (.bool s5) (.slice m5 n5 c5) (.bool t5) (.slice o5 p5 d5) ∧ IntAt w' (.agg #[.bool s1, .slice m1 n1 c1]) z1 ∧ RInt w' (.agg #[.bool s3, .slice m3 n3 c3]) z1 ∧ RInt w' (.agg #[.bool s4, .slice m4 n4 c4]) z2 ∧ RatAt w' (.agg #[.bool s5, .slice m5 n5 c5, .bool t5, .slice o5 p5 d5]) 0) (fun _ => true) 6 #[false, false, false, false, false, false] (by kernel_rfl) rfl rfl ?_
    have HF := hide (And.intro (HB.out.drew) (And.intro (V1.out.drew) (And.intro (V3.out.drew) (And.intro (V4.out.drew) (And.intro (V5.out.drew) (And.intro (I1.out.drew) (And.intro (I3.out.drew) (And.intro (I4.out.drew) (I5.out.drew)))))))))
    generalize u4a.drew = u4ad at *
    refine Calm.take (i := 0) (v := ?_) (a' := ?_) (l' := #[true, false, false, false, false, false]) (d := some 32) rfl (by kernel_rfl) (by kernel_rfl) (by kernel_rfl) (by kernel_rfl) (fun _ _ _ h => h) HF.out rfl ?_ rfl rfl ?_ ?_
    rotate_left
    · intro w' hF; have f10 := hF.2.1.cell0; have f11 := hF.2.1.cell1; have f20 := hF.2.2.1.cell0; have f21 := hF.2.2.1.cell1; have f30 := hF.2.2.2.1.cell0; have f31 := hF.2.2.2.1.cell1; have f40 := hF.2.2.2.2.1.cell0; have f41 := hF.2.2.2.2.1.cell1; have f42 := hF.2.2.2.2.1.cell2; have f43 := hF.2.2.2.2.1.cell3; clear hF; go_simp; try rfl
    rotate_left
    · simp only [Act.put]; exact rfl
    refine Calm.take (i := 2) (v := ?_) (a' := ?_) (l' := #[true, false, true, false, false, false]) (d := some 34) rfl (by kernel_rfl) (by kernel_rfl) (by kernel_rfl) (by kernel_rfl) (fun _ _ _ h => h) HF.out rfl ?_ rfl rfl ?_ ?_
    rotate_left
    · intro w' hF; have f10 := hF.2.1.cell0; have f11 := hF.2.1.cell1; have f20 := hF.2.2.1.cell0; have f21 := hF.2.2.1.cell1; have f30 := hF.2.2.2.1.cell0; have f31 := hF.2.2.2.1.cell1; have f40 := hF.2.2.2.2.1.cell0; have f41 := hF.2.2.2.2.1.cell1; have f42 := hF.2.2.2.2.1.cell2; have f43 := hF.2.2.2.2.1.cell3; clear hF; go_simp; try rfl
    rotate_left
    · simp only [Act.put]; exact rfl
    refine Calm.one (i := 1) (l' := #[true, true, true, false, false, false]) (by kernel_rfl) rfl rfl rfl fun K hK => ?_
    go_simp
    refine (whole_any _ z1 _ HF.out.2.2.2.2.2.1).mono ?_
    rintro e x1 ⟨v, rfl, n, hb⟩
    have HF' := hide (And.intro (HF.out.1.trans ((hb).mono HF.out.1.size)) (And.intro (HF.out.2.1.step (hb)) (And.intro (HF.out.2.2.1.step (hb)) (And.intro (HF.out.2.2.2.1.step (hb)) (And.intro (HF.out.2.2.2.2.1.step (hb)) (And.intro (HF.out.2.2.2.2.2.1.below (hb)) (And.intro (HF.out.2.2.2.2.2.2.1.below (hb)) (And.intro (HF.out.2.2.2.2.2.2.2.1.below (hb)) (HF.out.2.2.2.2.2.2.2.2.below (hb))))))))))
    have T1 := hide (n)
    refine hK _ _ (fun _ => HF'.out) ?_
    clear hK K HF hb n
    have HF := hide HF'.out
    clear HF'
    refine Calm.one (i := 3) (l' := #[true, true, true, true, false, false]) (by kernel_rfl) rfl rfl rfl fun K hK => ?_
    go_simp
    refine (r3whole_any _ z1 _ HF.out.2.2.2.2.2.2.1).mono ?_
    rintro e x2 ⟨v, rfl, n, hb⟩
    replace T1 := hide (T1.out.below (hb))
    have HF' := hide (And.intro (HF.out.1.trans ((hb).mono HF.out.1.size)) (And.intro (HF.out.2.1.step (hb)) (And.intro (HF.out.2.2.1.step (hb)) (And.intro (HF.out.2.2.2.1.step (hb)) (And.intro (HF.out.2.2.2.2.1.step (hb)) (And.intro (HF.out.2.2.2.2.2.1.below (hb)) (And.intro (HF.out.2.2.2.2.2.2.1.below (hb)) (And.intro (HF.out.2.2.2.2.2.2.2.1.below (hb)) (HF.out.2.2.2.2.2.2.2.2.below (hb))))))))))
    have T2 := hide (n)
    refine hK _ _ (fun _ => HF'.out) ?_
    clear hK K HF hb n
    have HF := hide HF'.out
    clear HF'
    refine Calm.one (i := 4) (l' := #[true, true, true, true, true, false]) (by kernel_rfl) rfl rfl rfl fun K hK => ?_
    go_simp
    refine (is3_yes _ _ (z1 : Rat) _ T1.out T2.out (szr_int Z3.out)).mono ?_
    rintro e x3 ⟨rfl, hb⟩
    clear T1
    clear T2
    have HF' := hide (And.intro (HF.out.1.trans ((hb).mono HF.out.1.size)) (And.intro (HF.out.2.1.step (hb)) (And.intro (HF.out.2.2.1.step (hb)) (And.intro (HF.out.2.2.2.1.step (hb)) (And.intro (HF.out.2.2.2.2.1.step (hb)) (And.intro (HF.out.2.2.2.2.2.1.below (hb)) (And.intro (HF.out.2.2.2.2.2.2.1.below (hb)) (And.intro (HF.out.2.2.2.2.2.2.2.1.below (hb)) (HF.out.2.2.2.2.2.2.2.2.below (hb))))))))))
    refine hK _ _ (fun _ => HF'.out) ?_
    clear hK K HF hb
    have HF := hide HF'.out
    clear HF'
    refine Calm.take (i := 5) (v := ?_) (a' := ?_) (l' := #[true, true, true, true, true, true]) (d := some 37) rfl (by kernel_rfl) (by kernel_rfl) (by kernel_rfl) (by kernel_rfl) (fun _ _ _ h => h) HF.out rfl ?_ rfl rfl ?_ ?_
    rotate_left
    · intro w' hF; clear hF; go_simp; try rfl
    rotate_left
    · simp only [Act.put]; exact rfl
    refine Calm.done (by kernel_rfl) ?_
    replace HB := hide HF.out.1
    replace V1 := hide HF.out.2.1
    replace V3 := hide HF.out.2.2.1
    replace V4 := hide HF.out.2.2.2.1
    replace V5 := hide HF.out.2.2.2.2.1
    replace I1 := hide HF.out.2.2.2.2.2.1
    replace I3 := hide HF.out.2.2.2.2.2.2.1
    replace I4 := hide HF.out.2.2.2.2.2.2.2.1
    replace I5 := hide HF.out.2.2.2.2.2.2.2.2
    clear HF
    clear P0
    clear I2
    clear V2
    try simp only [List.setIfInBounds_toArray, List.set_cons_succ, List.set_cons_zero]
    have hV40 := V4.out.cell0
    have hV41 := V4.out.cell1
    go_wp2_with fail
    clear hV40 hV41
    refine (rsign_any _ z2 _ I4.out).mono ?_
    rintro e x4 ⟨he, hb⟩
    replace HB := hide (HB.out.trans ((hb).mono HB.out.size))
    replace I1 := hide (I1.out.below (hb))
    replace I3 := hide (I3.out.below (hb))
    replace I4 := hide (I4.out.below (hb))
    replace V1 := hide (V1.out.step (hb))
    replace V3 := hide (V3.out.step (hb))
    replace V4 := hide (V4.out.step (hb))
    replace I5 := hide (I5.out.below (hb))
    replace V5 := hide (V5.out.step (hb))
    clear hb
    rw [show sgnI z2 = 0 from by rw [HZ.out]; rfl] at he
    subst he
    go_wp2_with fail
    refine wp_calm (fun w' => Below w.heap.size w w' ∧ Box4 w' g5 (.bool s5) (.slice m5 n5 c5) (.bool t5) (.slice o5 p5 d5) ∧ RatAt w' (.agg #[.bool s5, .slice m5 n5 c5, .bool t5, .slice o5 p5 d5]) 0) (fun _ => true) 8 #[false, false, false, false, false, false, false, false] (by kernel_rfl) rfl rfl ?_
    have HF := hide (And.intro (HB.out.drew) (And.intro (V5.out.drew) (I5.out.drew)))
    generalize x4.drew = x4d at *
    refine Calm.take (i := 0) (v := ?_) (a' := ?_) (l' := #[true, false, false, false, false, false, false, false]) (d := some 41) rfl (by kernel_rfl) (by kernel_rfl) (by kernel_rfl) (by kernel_rfl) (fun _ _ _ h => h) HF.out rfl ?_ rfl rfl ?_ ?_
    rotate_left
    · intro w' hF; clear hF; go_simp; try rfl
    rotate_left
    · simp only [Act.put]; exact rfl
    refine Calm.take (i := 1) (v := ?_) (a' := ?_) (l' := #[true, true, false, false, false, false, false, false]) (d := some 42) rfl (by kernel_rfl) (by kernel_rfl) (by kernel_rfl) (by kernel_rfl) (fun _ _ _ h => h) HF.out rfl ?_ rfl rfl ?_ ?_
    rotate_left
    · intro w' hF; clear hF; go_simp; try rfl
    rotate_left
    · simp only [Act.put]; exact rfl
    refine Calm.take (i := 2) (v := ?_) (a' := ?_) (l' := #[true, true, true, false, false, false, false, false]) (d := some 43) rfl (by kernel_rfl) (by kernel_rfl) (by kernel_rfl) (by kernel_rfl) (fun _ _ _ h => h) HF.out rfl ?_ rfl rfl ?_ ?_
    rotate_left
    · intro w' hF; clear hF; go_simp; try rfl
    rotate_left
    · simp only [Act.put]; exact rfl
    refine Calm.take (i := 3) (v := ?_) (a' := ?_) (l' := #[true, true, true, true, false, false, false, false]) (d := some 44) rfl (by kernel_rfl) (by kernel_rfl) (by kernel_rfl) (by kernel_rfl) (fun _ _ _ h => h) HF.out (by kernel_rfl) ?_ rfl rfl ?_ ?_
    rotate_left
    · intro w' hF; have f10 := hF.2.1.cell0; have f11 := hF.2.1.cell1; have f12 := hF.2.1.cell2; have f13 := hF.2.1.cell3; clear hF; go_simp; try rfl
    rotate_left
    · simp only [Act.put]; exact rfl
    refine Calm.one (i := 4) (l' := #[true, true, true, true, true, false, false, false]) (by kernel_rfl) rfl (by kernel_rfl) rfl fun K hK => ?_
    go_simp
    refine (r3zero_any _).mono ?_
    rintro e x5 ⟨v, rfl, n, hb⟩
    have HF' := hide (And.intro (HF.out.1.trans ((hb).mono HF.out.1.size)) (And.intro (HF.out.2.1.step (hb)) (HF.out.2.2.below (hb))))
    have T1 := hide (n)
    refine hK _ _ (fun _ => HF'.out) ?_
    clear hK K HF hb n
    have HF := hide HF'.out
    clear HF'
    refine Calm.one (i := 5) (l' := #[true, true, true, true, true, true, false, false]) (by kernel_rfl) rfl (by kernel_rfl) rfl fun K hK => ?_
    go_simp
    refine (is3_yes _ _ 0 _ HF.out.2.2 T1.out szr_zero4).mono ?_
    rintro e x6 ⟨rfl, hb⟩
    clear T1
    have HF' := hide (And.intro (HF.out.1.trans ((hb).mono HF.out.1.size)) (And.intro (HF.out.2.1.step (hb)) (HF.out.2.2.below (hb))))
    refine hK _ _ (fun _ => HF'.out) ?_
    clear hK K HF hb
    have HF := hide HF'.out
    clear HF'
    refine Calm.take (i := 6) (v := ?_) (a' := ?_) (l' := #[true, true, true, true, true, true, true, false]) (d := some 47) rfl (by kernel_rfl) (by kernel_rfl) (by kernel_rfl) (by kernel_rfl) (fun _ _ _ h => h) HF.out rfl ?_ rfl rfl ?_ ?_
    rotate_left
    · intro w' hF; clear hF; go_simp; try rfl
    rotate_left
    · simp only [Act.put]; exact rfl
    refine Calm.take (i := 7) (v := ?_) (a' := ?_) (l' := #[true, true, true, true, true, true, true, true]) (d := some 2) rfl (by kernel_rfl) (by kernel_rfl) (by kernel_rfl) (by kernel_rfl) (fun _ _ _ h => h) HF.out rfl ?_ rfl rfl ?_ ?_
    rotate_left
    · intro w' hF; clear hF; go_simp; try rfl
    rotate_left
    · simp only [Act.put]; exact rfl
    refine Calm.done (by kernel_rfl) ?_
    replace HB := hide HF.out.1
    replace V5 := hide HF.out.2.1
    replace I5 := hide HF.out.2.2
    clear HF
    clear I1
    clear I3
    clear I4
    clear V1
    clear V3
    clear V4
    try simp only [List.setIfInBounds_toArray, List.set_cons_succ, List.set_cons_zero]
    go_wp2
    go_ret
    exact ⟨rfl, HB.out⟩
  · have HZ := hide hz
    refine (rtmake_any _ _ z1 z2 _ I1.out I2.out (SzI.len Z3.out (by decide)) (SzI.len Z4.out (by decide)) HZ.out).mono ?_
    rintro e u4 ⟨v, rfl, kx, hb⟩
    obtain ⟨s5, m5, n5, c5, t5, o5, p5, d5, rfl, ky⟩ := kx.cells
    replace P0 := hide (P0.out.step (hb))
    replace HB := hide (HB.out.trans ((hb).mono HB.out.size))
    replace I1 := hide (I1.out.below (hb))
    replace I2 := hide (I2.out.below (hb))
    replace I3 := hide (I3.out.below (hb))
    replace I4 := hide (I4.out.below (hb))
    replace V1 := hide (V1.out.step (hb))
    replace V2 := hide (V2.out.step (hb))
    replace V3 := hide (V3.out.step (hb))
    replace V4 := hide (V4.out.step (hb))
    have I5 := hide (ky)
    clear hb kx ky hz
    go_upto_region 9 with fail
    have al := below_alloc u4 (.cells #[.bool s5, .slice m5 n5 c5, .bool t5, .slice o5 p5 d5] 34)
    replace P0 := hide (P0.out.step (al))
    replace HB := hide (HB.out.trans ((al).mono HB.out.size))
    replace I1 := hide (I1.out.below (al))
    replace I2 := hide (I2.out.below (al))
    replace I3 := hide (I3.out.below (al))
    replace I4 := hide (I4.out.below (al))
    replace V1 := hide (V1.out.step (al))
    replace V2 := hide (V2.out.step (al))
    replace V3 := hide (V3.out.step (al))
    replace V4 := hide (V4.out.step (al))
    replace I5 := hide (I5.out.below (al))
    have V5 := hide (Box4.new u4 (.bool s5) (.slice m5 n5 c5) (.bool t5) (.slice o5 p5 d5))
    clear al
    generalize u4.alloc (.cells #[.bool s5, .slice m5 n5 c5, .bool t5, .slice o5 p5 d5] 34) = u4a at *
    generalize u4.heap.size = g5 at *
    refine wp_calm (fun w' => Below w.heap.size w w' ∧ Box w' g1 (.bool s1) (.slice m1 n1 c1) ∧ BoxR w' (g1 + 1 + 1) (.bool s3) (.slice m3 n3 c3) ∧ BoxR w' (g1 + 1 + 1 + 1) (.bool s4) (.slice m4 n4 c4) ∧ Box4 w' g5 (.bool s5) (.slice m5 n5 c5) (.bool t5) (.slice o5 p5 d5) ∧ IntAt w' (.agg #[.bool s1, .slice m1 n1 c1]) z1 ∧ RInt w' (.agg #[.bool s3, .slice m3 n3 c3]) z1 ∧ RInt w' (.agg #[.bool s4, .slice m4 n4 c4]) z2 ∧ RatAt w' (.agg #[.bool s5, .slice m5 n5 c5, .bool t5, .slice o5 p5 d5]) (Rat.divInt z1 z2)) (fun _ => true) 6 #[false, false, false, false, false, false] (by kernel_rfl) rfl rfl ?_
    have HF := hide (And.intro (HB.out.drew) (And.intro (V1.out.drew) (And.intro (V3.out.drew) (And.intro (V4.out.drew) (And.intro (V5.out.drew) (And.intro (I1.out.drew) (And.intro (I3.out.drew) (And.intro (I4.out.drew) (I5.out.drew)))))))))
    generalize u4a.drew = u4ad at *
    refine Calm.take (i := 0) (v := ?_) (a' := ?_) (l' := #[true, false, false, false, false, false]) (d := some 32) rfl (by kernel_rfl) (by kernel_rfl) (by kernel_rfl) (by kernel_rfl) (fun _ _ _ h => h) HF.out rfl ?_ rfl rfl ?_ ?_
    rotate_left
    · intro w' hF; have f10 := hF.2.1.cell0; have f11 := hF.2.1.cell1; have f20 := hF.2.2.1.cell0; have f21 := hF.2.2.1.cell1; have f30 := hF.2.2.2.1.cell0; have f31 := hF.2.2.2.1.cell1; have f40 := hF.2.2.2.2.1.cell0; have f41 := hF.2.2.2.2.1.cell1; have f42 := hF.2.2.2.2.1.cell2; have f43 := hF.2.2.2.2.1.cell3; clear hF; go_simp; try rfl
    rotate_left
    · simp only [Act.put]; exact rfl
    refine Calm.take (i := 2) (v := ?_) (a' := ?_) (l' := #[true, false, true, false, false, false]) (d := some 34) rfl (by kernel_rfl) (by kernel_rfl) (by kernel_rfl) (by kernel_rfl) (fun _ _ _ h => h) HF.out rfl ?_ rfl rfl ?_ ?_
    rotate_left
    · intro w' hF; have f10 := hF.2.1.cell0; have f11 := hF.2.1.cell1; have f20 := hF.2.2.1.cell0; have f21 := hF.2.2.1.cell1; have f30 := hF.2.2.2.1.cell0; have f31 := hF.2.2.2.1.cell1; have f40 := hF.2.2.2.2.1.cell0; have f41 := hF.2.2.2.2.1.cell1; have f42 := hF.2.2.2.2.1.cell2; have f43 := hF.2.2.2.2.1.cell3; clear hF; go_simp; try rfl
    rotate_left
    · simp only [Act.put]; exact rfl
    refine Calm.one (i := 1) (l' := #[true, true, true, false, false, false]) (by kernel_rfl) rfl rfl rfl fun K hK => ?_
    go_simp
    refine (whole_any _ z1 _ HF.out.2.2.2.2.2.1).mono ?_
    rintro e x1 ⟨v, rfl, n, hb⟩
    have HF' := hide (And.intro (HF.out.1.trans ((hb).mono HF.out.1.size)) (And.intro (HF.out.2.1.step (hb)) (And.intro (HF.out.2.2.1.step (hb)) (And.intro (HF.out.2.2.2.1.step (hb)) (And.intro (HF.out.2.2.2.2.1.step (hb)) (And.intro (HF.out.2.2.2.2.2.1.below (hb)) (And.intro (HF.out.2.2.2.2.2.2.1.below (hb)) (And.intro (HF.out.2.2.2.2.2.2.2.1.below (hb)) (HF.out.2.2.2.2.2.2.2.2.below (hb))))))))))
    have T1 := hide (n)
    refine hK _ _ (fun _ => HF'.out) ?_
    clear hK K HF hb n
    have HF := hide HF'.out
    clear HF'
    refine Calm.one (i := 3) (l' := #[true, true, true, true, false, false]) (by kernel_rfl) rfl rfl rfl fun K hK => ?_
    go_simp
    refine (r3whole_any _ z1 _ HF.out.2.2.2.2.2.2.1).mono ?_
    rintro e x2 ⟨v, rfl, n, hb⟩
    replace T1 := hide (T1.out.below (hb))
    have HF' := hide (And.intro (HF.out.1.trans ((hb).mono HF.out.1.size)) (And.intro (HF.out.2.1.step (hb)) (And.intro (HF.out.2.2.1.step (hb)) (And.intro (HF.out.2.2.2.1.step (hb)) (And.intro (HF.out.2.2.2.2.1.step (hb)) (And.intro (HF.out.2.2.2.2.2.1.below (hb)) (And.intro (HF.out.2.2.2.2.2.2.1.below (hb)) (And.intro (HF.out.2.2.2.2.2.2.2.1.below (hb)) (HF.out.2.2.2.2.2.2.2.2.below (hb))))))))))
    have T2 := hide (n)
    refine hK _ _ (fun _ => HF'.out) ?_
    clear hK K HF hb n
    have HF := hide HF'.out
    clear HF'
    refine Calm.one (i := 4) (l' := #[true, true, true, true, true, false]) (by kernel_rfl) rfl rfl rfl fun K hK => ?_
    go_simp
    refine (is3_yes _ _ (z1 : Rat) _ T1.out T2.out (szr_int Z3.out)).mono ?_
    rintro e x3 ⟨rfl, hb⟩
    clear T1
    clear T2
    have HF' := hide (And.intro (HF.out.1.trans ((hb).mono HF.out.1.size)) (And.intro (HF.out.2.1.step (hb)) (And.intro (HF.out.2.2.1.step (hb)) (And.intro (HF.out.2.2.2.1.step (hb)) (And.intro (HF.out.2.2.2.2.1.step (hb)) (And.intro (HF.out.2.2.2.2.2.1.below (hb)) (And.intro (HF.out.2.2.2.2.2.2.1.below (hb)) (And.intro (HF.out.2.2.2.2.2.2.2.1.below (hb)) (HF.out.2.2.2.2.2.2.2.2.below (hb))))))))))
    refine hK _ _ (fun _ => HF'.out) ?_
    clear hK K HF hb
    have HF := hide HF'.out
    clear HF'
    refine Calm.take (i := 5) (v := ?_) (a' := ?_) (l' := #[true, true, true, true, true, true]) (d := some 37) rfl (by kernel_rfl) (by kernel_rfl) (by kernel_rfl) (by kernel_rfl) (fun _ _ _ h => h) HF.out rfl ?_ rfl rfl ?_ ?_
    rotate_left
    · intro w' hF; clear hF; go_simp; try rfl
    rotate_left
    · simp only [Act.put]; exact rfl
    refine Calm.done (by kernel_rfl) ?_
    replace HB := hide HF.out.1
    replace V1 := hide HF.out.2.1
    replace V3 := hide HF.out.2.2.1
    replace V4 := hide HF.out.2.2.2.1
    replace V5 := hide HF.out.2.2.2.2.1
    replace I1 := hide HF.out.2.2.2.2.2.1
    replace I3 := hide HF.out.2.2.2.2.2.2.1
    replace I4 := hide HF.out.2.2.2.2.2.2.2.1
    replace I5 := hide HF.out.2.2.2.2.2.2.2.2
    clear HF
    clear P0
    clear I2
    clear V2
    try simp only [List.setIfInBounds_toArray, List.set_cons_succ, List.set_cons_zero]
    have hV40 := V4.out.cell0
    have hV41 := V4.out.cell1
    go_wp2_with fail
    clear hV40 hV41
    refine (rsign_any _ z2 _ I4.out).mono ?_
    rintro e x4 ⟨he, hb⟩
    replace HB := hide (HB.out.trans ((hb).mono HB.out.size))
    replace I1 := hide (I1.out.below (hb))
    replace I3 := hide (I3.out.below (hb))
    replace I4 := hide (I4.out.below (hb))
    replace V1 := hide (V1.out.step (hb))
    replace V3 := hide (V3.out.step (hb))
    replace V4 := hide (V4.out.step (hb))
    replace I5 := hide (I5.out.below (hb))
    replace V5 := hide (V5.out.step (hb))
    clear hb
    have SG : (sgnI z2 == 0) = false := by have := HZ.out; rw [beq_eq_false_iff_ne]; unfold sgnI; split <;> (try split) <;> omega
    generalize sgnI z2 = sd at *
    subst he
    have hV30 := V3.out.cell0
    have hV31 := V3.out.cell1
    have hV40 := V4.out.cell0
    have hV41 := V4.out.cell1
    go_wp2_with fail
    clear SG
    clear hV30 hV31
    clear hV40 hV41
    refine (r3make_any _ _ z1 z2 _ I3.out I4.out 65536 65536 Z3.out Z4.out (by decide) (by decide) HZ.out).mono ?_
    rintro e x5 ⟨v, rfl, kx, hb⟩
    obtain ⟨s6, m6, n6, c6, t6, o6, p6, d6, rfl, ky⟩ := kx.cells
    replace HB := hide (HB.out.trans ((hb).mono HB.out.size))
    replace I1 := hide (I1.out.below (hb))
    replace I3 := hide (I3.out.below (hb))
    replace I4 := hide (I4.out.below (hb))
    replace V1 := hide (V1.out.step (hb))
    replace V3 := hide (V3.out.step (hb))
    replace V4 := hide (V4.out.step (hb))
    replace I5 := hide (I5.out.below (hb))
    replace V5 := hide (V5.out.step (hb))
    have I6 := hide (ky)
    clear hb kx ky
    go_upto_region 14 with fail
    have al := below_alloc x5 (.cells #[.bool s6, .slice m6 n6 c6, .bool t6, .slice o6 p6 d6] 41)
    replace HB := hide (HB.out.trans ((al).mono HB.out.size))
    replace I1 := hide (I1.out.below (al))
    replace I3 := hide (I3.out.below (al))
    replace I4 := hide (I4.out.below (al))
    replace V1 := hide (V1.out.step (al))
    replace V3 := hide (V3.out.step (al))
    replace V4 := hide (V4.out.step (al))
    replace I5 := hide (I5.out.below (al))
    replace V5 := hide (V5.out.step (al))
    replace I6 := hide (I6.out.below (al))
    have V6 := hide (BoxQ.new x5 (.bool s6) (.slice m6 n6 c6) (.bool t6) (.slice o6 p6 d6))
    clear al
    generalize x5.alloc (.cells #[.bool s6, .slice m6 n6 c6, .bool t6, .slice o6 p6 d6] 41) = x5a at *
    generalize x5.heap.size = g6 at *
    have SQ : Hid (SzR 65536 (Rat.divInt z1 z2)) := hide ⟨(SzR.divInt HZ.out Z3.out Z4.out).1, (SzR.divInt HZ.out Z3.out Z4.out).2⟩
    clear I1 I3 I4 V1 V3 V4 Z3 Z4 HZ
    generalize Rat.divInt z1 z2 = q at *
    have SQ4 : Hid (SzR 400000 q) := hide (SQ.out.mono (by decide))
    have SQ8 : Hid (SzR 100000000 q) := hide (SQ.out.mono (by decide))
    have SQ5 : Hid (SzR 100000 q) := hide (SQ.out.mono (by decide))
    have SF := hide (sz_floor SQ.out.num)
    refine wp_calm (fun w' => Below w.heap.size w w' ∧ Box4 w' g5 (.bool s5) (.slice m5 n5 c5) (.bool t5) (.slice o5 p5 d5) ∧ BoxQ w' g6 (.bool s6) (.slice m6 n6 c6) (.bool t6) (.slice o6 p6 d6) ∧ RatAt w' (.agg #[.bool s5, .slice m5 n5 c5, .bool t5, .slice o5 p5 d5]) q ∧ RQ w' (.agg #[.bool s6, .slice m6 n6 c6, .bool t6, .slice o6 p6 d6]) q) (fun _ => true) 38 #[false, false, false, false, false, false, false, false, false, false, false, false, false, false, false, false, false, false, false, false, false, false, false, false, false, false, false, false, false, false, false, false, false, false, false, false, false, false] (by kernel_rfl) rfl rfl ?_
    have HF := hide (And.intro (HB.out.drew) (And.intro (V5.out.drew) (And.intro (V6.out.drew) (And.intro (I5.out.drew) (I6.out.drew)))))
    generalize x5a.drew = x5ad at *
    refine Calm.take (i := 0) (v := ?_) (a' := ?_) (l' := #[true, false, false, false, false, false, false, false, false, false, false, false, false, false, false, false, false, false, false, false, false, false, false, false, false, false, false, false, false, false, false, false, false, false, false, false, false, false]) (d := some 51) rfl (by kernel_rfl) (by kernel_rfl) (by kernel_rfl) (by kernel_rfl) (fun _ _ _ h => h) HF.out rfl ?_ rfl rfl ?_ ?_
    rotate_left
    · intro w' hF; clear hF; go_simp; try rfl
    rotate_left
    · simp only [Act.put]; exact rfl
    refine Calm.take (i := 1) (v := ?_) (a' := ?_) (l' := #[true, true, false, false, false, false, false, false, false, false, false, false, false, false, false, false, false, false, false, false, false, false, false, false, false, false, false, false, false, false, false, false, false, false, false, false, false, false]) (d := some 52) rfl (by kernel_rfl) (by kernel_rfl) (by kernel_rfl) (by kernel_rfl) (fun _ _ _ h => h) HF.out rfl ?_ rfl rfl ?_ ?_
    rotate_left
    · intro w' hF; clear hF; go_simp; try rfl
    rotate_left
    · simp only [Act.put]; exact rfl
    refine Calm.take (i := 2) (v := ?_) (a' := ?_) (l' := #[true, true, true, false, false, false, false, false, false, false, false, false, false, false, false, false, false, false, false, false, false, false, false, false, false, false, false, false, false, false, false, false, false, false, false, false, false, false]) (d := some 53) rfl (by kernel_rfl) (by kernel_rfl) (by kernel_rfl) (by kernel_rfl) (fun _ _ _ h => h) HF.out rfl ?_ rfl rfl ?_ ?_
    rotate_left
    · intro w' hF; clear hF; go_simp; try rfl
    rotate_left
    · simp only [Act.put]; exact rfl
    refine Calm.take (i := 3) (v := ?_) (a' := ?_) (l' := #[true, true, true, true, false, false, false, false, false, false, false, false, false, false, false, false, false, false, false, false, false, false, false, false, false, false, false, false, false, false, false, false, false, false, false, false, false, false]) (d := some 54) rfl (by kernel_rfl) (by kernel_rfl) (by kernel_rfl) (by kernel_rfl) (fun _ _ _ h => h) HF.out (by kernel_rfl) ?_ rfl rfl ?_ ?_
    rotate_left
    · intro w' hF; have f10 := hF.2.1.cell0; have f11 := hF.2.1.cell1; have f12 := hF.2.1.cell2; have f13 := hF.2.1.cell3; have f20 := hF.2.2.1.cell0; have f21 := hF.2.2.1.cell1; have f22 := hF.2.2.1.cell2; have f23 := hF.2.2.1.cell3; clear hF; go_simp; try rfl
    rotate_left
    · simp only [Act.put]; exact rfl
    refine Calm.take (i := 4) (v := ?_) (a' := ?_) (l' := #[true, true, true, true, true, false, false, false, false, false, false, false, false, false, false, false, false, false, false, false, false, false, false, false, false, false, false, false, false, false, false, false, false, false, false, false, false, false]) (d := some 55) rfl (by kernel_rfl) (by kernel_rfl) (by kernel_rfl) (by kernel_rfl) (fun _ _ _ h => h) HF.out (by kernel_rfl) ?_ rfl rfl ?_ ?_
    rotate_left
    · intro w' hF; have f10 := hF.2.1.cell0; have f11 := hF.2.1.cell1; have f12 := hF.2.1.cell2; have f13 := hF.2.1.cell3; have f20 := hF.2.2.1.cell0; have f21 := hF.2.2.1.cell1; have f22 := hF.2.2.1.cell2; have f23 := hF.2.2.1.cell3; clear hF; go_simp; try rfl
    rotate_left
    · simp only [Act.put]; exact rfl
    refine Calm.one (i := 5) (l' := #[true, true, true, true, true, true, false, false, false, false, false, false, false, false, false, false, false, false, false, false, false, false, false, false, false, false, false, false, false, false, false, false, false, false, false, false, false, false]) (by kernel_rfl) rfl (by kernel_rfl) rfl fun K hK => ?_
    go_simp
    refine (is3_yes _ _ q _ HF.out.2.2.2.1 HF.out.2.2.2.2 SQ4.out).mono ?_
    rintro e y1 ⟨rfl, hb⟩
    have HF' := hide (And.intro (HF.out.1.trans ((hb).mono HF.out.1.size)) (And.intro (HF.out.2.1.step (hb)) (And.intro (HF.out.2.2.1.step (hb)) (And.intro (HF.out.2.2.2.1.below (hb)) (HF.out.2.2.2.2.below (hb))))))
    refine hK _ _ (fun _ => HF'.out) ?_
    clear hK K HF hb
    have HF := hide HF'.out
    clear HF'
    refine Calm.take (i := 6) (v := ?_) (a' := ?_) (l' := #[true, true, true, true, true, true, true, false, false, false, false, false, false, false, false, false, false, false, false, false, false, false, false, false, false, false, false, false, false, false, false, false, false, false, false, false, false, false]) (d := some 57) rfl (by kernel_rfl) (by kernel_rfl) (by kernel_rfl) (by kernel_rfl) (fun _ _ _ h => h) HF.out rfl ?_ rfl rfl ?_ ?_
    rotate_left
    · intro w' hF; clear hF; go_simp; try rfl
    rotate_left
    · simp only [Act.put]; exact rfl
    refine Calm.take (i := 7) (v := ?_) (a' := ?_) (l' := #[true, true, true, true, true, true, true, true, false, false, false, false, false, false, false, false, false, false, false, false, false, false, false, false, false, false, false, false, false, false, false, false, false, false, false, false, false, false]) (d := some 58) rfl (by kernel_rfl) (by kernel_rfl) (by kernel_rfl) (by kernel_rfl) (fun _ _ _ h => h) HF.out rfl ?_ rfl rfl ?_ ?_
    rotate_left
    · intro w' hF; clear hF; go_simp; try rfl
    rotate_left
    · simp only [Act.put]; exact rfl
    refine Calm.take (i := 8) (v := ?_) (a' := ?_) (l' := #[true, true, true, true, true, true, true, true, true, false, false, false, false, false, false, false, false, false, false, false, false, false, false, false, false, false, false, false, false, false, false, false, false, false, false, false, false, false]) (d := some 59) rfl (by kernel_rfl) (by kernel_rfl) (by kernel_rfl) (by kernel_rfl) (fun _ _ _ h => h) HF.out (by kernel_rfl) ?_ rfl rfl ?_ ?_
    rotate_left
    · intro w' hF; have f10 := hF.2.1.cell0; have f11 := hF.2.1.cell1; have f12 := hF.2.1.cell2; have f13 := hF.2.1.cell3; have f20 := hF.2.2.1.cell0; have f21 := hF.2.2.1.cell1; have f22 := hF.2.2.1.cell2; have f23 := hF.2.2.1.cell3; clear hF; go_simp; try rfl
    rotate_left
    · simp only [Act.put]; exact rfl
    refine Calm.take (i := 10) (v := ?_) (a' := ?_) (l' := #[true, true, true, true, true, true, true, true, true, false, true, false, false, false, false, false, false, false, false, false, false, false, false, false, false, false, false, false, false, false, false, false, false, false, false, false, false, false]) (d := some 61) rfl (by kernel_rfl) (by kernel_rfl) (by kernel_rfl) (by kernel_rfl) (fun _ _ _ h => h) HF.out (by kernel_rfl) ?_ rfl rfl ?_ ?_
    rotate_left
    · intro w' hF; have f10 := hF.2.1.cell0; have f11 := hF.2.1.cell1; have f12 := hF.2.1.cell2; have f13 := hF.2.1.cell3; have f20 := hF.2.2.1.cell0; have f21 := hF.2.2.1.cell1; have f22 := hF.2.2.1.cell2; have f23 := hF.2.2.1.cell3; clear hF; go_simp; try rfl
    rotate_left
    · simp only [Act.put]; exact rfl
    refine Calm.one (i := 9) (l' := #[true, true, true, true, true, true, true, true, true, true, true, false, false, false, false, false, false, false, false, false, false, false, false, false, false, false, false, false, false, false, false, false, false, false, false, false, false, false]) (by kernel_rfl) rfl (by kernel_rfl) rfl fun K hK => ?_
    go_simp
    refine (rsgn_any _ q _ HF.out.2.2.2.1).mono ?_
    rintro e y2 ⟨rfl, hb⟩
    have HF' := hide (And.intro (HF.out.1.trans ((hb).mono HF.out.1.size)) (And.intro (HF.out.2.1.step (hb)) (And.intro (HF.out.2.2.1.step (hb)) (And.intro (HF.out.2.2.2.1.below (hb)) (HF.out.2.2.2.2.below (hb))))))
    refine hK _ _ (fun _ => HF'.out) ?_
    clear hK K HF hb
    have HF := hide HF'.out
    clear HF'
    refine Calm.one (i := 11) (l' := #[true, true, true, true, true, true, true, true, true, true, true, true, false, false, false, false, false, false, false, false, false, false, false, false, false, false, false, false, false, false, false, false, false, false, false, false, false, false]) (by kernel_rfl) rfl (by kernel_rfl) rfl fun K hK => ?_
    go_simp
    refine (r3sign_any _ q _ HF.out.2.2.2.2).mono ?_
    rintro e y3 ⟨rfl, hb⟩
    have HF' := hide (And.intro (HF.out.1.trans ((hb).mono HF.out.1.size)) (And.intro (HF.out.2.1.step (hb)) (And.intro (HF.out.2.2.1.step (hb)) (And.intro (HF.out.2.2.2.1.below (hb)) (HF.out.2.2.2.2.below (hb))))))
    refine hK _ _ (fun _ => HF'.out) ?_
    clear hK K HF hb
    have HF := hide HF'.out
    clear HF'
    refine Calm.take (i := 12) (v := ?_) (a' := ?_) (l' := #[true, true, true, true, true, true, true, true, true, true, true, true, true, false, false, false, false, false, false, false, false, false, false, false, false, false, false, false, false, false, false, false, false, false, false, false, false, false]) (d := some 63) rfl (by kernel_rfl) (by kernel_rfl) (by kernel_rfl) (by kernel_rfl) (fun _ _ _ h => h) HF.out (by kernel_rfl) ?_ rfl rfl ?_ ?_
    rotate_left
    · intro w' hF; clear hF; go_simp; try rfl
    rotate_left
    · simp only [Act.put]; exact rfl
    refine Calm.take (i := 13) (v := ?_) (a' := ?_) (l' := #[true, true, true, true, true, true, true, true, true, true, true, true, true, true, false, false, false, false, false, false, false, false, false, false, false, false, false, false, false, false, false, false, false, false, false, false, false, false]) (d := some 64) rfl (by kernel_rfl) (by kernel_rfl) (by kernel_rfl) (by kernel_rfl) (fun _ _ _ h => h) HF.out rfl ?_ rfl rfl ?_ ?_
    rotate_left
    · intro w' hF; clear hF; go_simp; try rfl
    rotate_left
    · simp only [Act.put]; exact rfl
    refine Calm.take (i := 14) (v := ?_) (a' := ?_) (l' := #[true, true, true, true, true, true, true, true, true, true, true, true, true, true, true, false, false, false, false, false, false, false, false, false, false, false, false, false, false, false, false, false, false, false, false, false, false, false]) (d := some 65) rfl (by kernel_rfl) (by kernel_rfl) (by kernel_rfl) (by kernel_rfl) (fun _ _ _ h => h) HF.out rfl ?_ rfl rfl ?_ ?_
    rotate_left
    · intro w' hF; clear hF; go_simp; try rfl
    rotate_left
    · simp only [Act.put]; exact rfl
    refine Calm.take (i := 15) (v := ?_) (a' := ?_) (l' := #[true, true, true, true, true, true, true, true, true, true, true, true, true, true, true, true, false, false, false, false, false, false, false, false, false, false, false, false, false, false, false, false, false, false, false, false, false, false]) (d := some 66) rfl (by kernel_rfl) (by kernel_rfl) (by kernel_rfl) (by kernel_rfl) (fun _ _ _ h => h) HF.out (by kernel_rfl) ?_ rfl rfl ?_ ?_
    rotate_left
    · intro w' hF; have f10 := hF.2.1.cell0; have f11 := hF.2.1.cell1; have f12 := hF.2.1.cell2; have f13 := hF.2.1.cell3; have f20 := hF.2.2.1.cell0; have f21 := hF.2.2.1.cell1; have f22 := hF.2.2.1.cell2; have f23 := hF.2.2.1.cell3; clear hF; go_simp; try rfl
    rotate_left
    · simp only [Act.put]; exact rfl
    refine Calm.take (i := 17) (v := ?_) (a' := ?_) (l' := #[true, true, true, true, true, true, true, true, true, true, true, true, true, true, true, true, false, true, false, false, false, false, false, false, false, false, false, false, false, false, false, false, false, false, false, false, false, false]) (d := some 68) rfl (by kernel_rfl) (by kernel_rfl) (by kernel_rfl) (by kernel_rfl) (fun _ _ _ h => h) HF.out (by kernel_rfl) ?_ rfl rfl ?_ ?_
    rotate_left
    · intro w' hF; have f10 := hF.2.1.cell0; have f11 := hF.2.1.cell1; have f12 := hF.2.1.cell2; have f13 := hF.2.1.cell3; have f20 := hF.2.2.1.cell0; have f21 := hF.2.2.1.cell1; have f22 := hF.2.2.1.cell2; have f23 := hF.2.2.1.cell3; clear hF; go_simp; try rfl
    rotate_left
    · simp only [Act.put]; exact rfl
    refine Calm.one (i := 16) (l' := #[true, true, true, true, true, true, true, true, true, true, true, true, true, true, true, true, true, true, false, false, false, false, false, false, false, false, false, false, false, false, false, false, false, false, false, false, false, false]) (by kernel_rfl) rfl (by kernel_rfl) rfl fun K hK => ?_
    go_simp
    refine (iswhole_any _ q _ HF.out.2.2.2.1).mono ?_
    rintro e y4 ⟨rfl, hb⟩
    have HF' := hide (And.intro (HF.out.1.trans ((hb).mono HF.out.1.size)) (And.intro (HF.out.2.1.step (hb)) (And.intro (HF.out.2.2.1.step (hb)) (And.intro (HF.out.2.2.2.1.below (hb)) (HF.out.2.2.2.2.below (hb))))))
    refine hK _ _ (fun _ => HF'.out) ?_
    clear hK K HF hb
    have HF := hide HF'.out
    clear HF'
    refine Calm.one (i := 18) (l' := #[true, true, true, true, true, true, true, true, true, true, true, true, true, true, true, true, true, true, true, false, false, false, false, false, false, false, false, false, false, false, false, false, false, false, false, false, false, false]) (by kernel_rfl) rfl (by kernel_rfl) rfl fun K hK => ?_
    go_simp
    refine (r3is_any _ q _ HF.out.2.2.2.2).mono ?_
    rintro e y5 ⟨rfl, hb⟩
    have HF' := hide (And.intro (HF.out.1.trans ((hb).mono HF.out.1.size)) (And.intro (HF.out.2.1.step (hb)) (And.intro (HF.out.2.2.1.step (hb)) (And.intro (HF.out.2.2.2.1.below (hb)) (HF.out.2.2.2.2.below (hb))))))
    refine hK _ _ (fun _ => HF'.out) ?_
    clear hK K HF hb
    have HF := hide HF'.out
    clear HF'
    refine Calm.take (i := 19) (v := ?_) (a' := ?_) (l' := #[true, true, true, true, true, true, true, true, true, true, true, true, true, true, true, true, true, true, true, true, false, false, false, false, false, false, false, false, false, false, false, false, false, false, false, false, false, false]) (d := some 70) rfl (by kernel_rfl) (by kernel_rfl) (by kernel_rfl) (by kernel_rfl) (fun _ _ _ h => h) HF.out (by kernel_rfl) ?_ rfl rfl ?_ ?_
    rotate_left
    · intro w' hF; clear hF; go_simp; try rfl
    rotate_left
    · simp only [Act.put]; exact rfl
    refine Calm.take (i := 20) (v := ?_) (a' := ?_) (l' := #[true, true, true, true, true, true, true, true, true, true, true, true, true, true, true, true, true, true, true, true, true, false, false, false, false, false, false, false, false, false, false, false, false, false, false, false, false, false]) (d := some 71) rfl (by kernel_rfl) (by kernel_rfl) (by kernel_rfl) (by kernel_rfl) (fun _ _ _ h => h) HF.out rfl ?_ rfl rfl ?_ ?_
    rotate_left
    · intro w' hF; clear hF; go_simp; try rfl
    rotate_left
    · simp only [Act.put]; exact rfl
    refine Calm.take (i := 21) (v := ?_) (a' := ?_) (l' := #[true, true, true, true, true, true, true, true, true, true, true, true, true, true, true, true, true, true, true, true, true, true, false, false, false, false, false, false, false, false, false, false, false, false, false, false, false, false]) (d := some 72) rfl (by kernel_rfl) (by kernel_rfl) (by kernel_rfl) (by kernel_rfl) (fun _ _ _ h => h) HF.out rfl ?_ rfl rfl ?_ ?_
    rotate_left
    · intro w' hF; clear hF; go_simp; try rfl
    rotate_left
    · simp only [Act.put]; exact rfl
    refine Calm.take (i := 22) (v := ?_) (a' := ?_) (l' := #[true, true, true, true, true, true, true, true, true, true, true, true, true, true, true, true, true, true, true, true, true, true, true, false, false, false, false, false, false, false, false, false, false, false, false, false, false, false]) (d := some 73) rfl (by kernel_rfl) (by kernel_rfl) (by kernel_rfl) (by kernel_rfl) (fun _ _ _ h => h) HF.out (by kernel_rfl) ?_ rfl rfl ?_ ?_
    rotate_left
    · intro w' hF; have f10 := hF.2.1.cell0; have f11 := hF.2.1.cell1; have f12 := hF.2.1.cell2; have f13 := hF.2.1.cell3; have f20 := hF.2.2.1.cell0; have f21 := hF.2.2.1.cell1; have f22 := hF.2.2.1.cell2; have f23 := hF.2.2.1.cell3; clear hF; go_simp; try rfl
    rotate_left
    · simp only [Act.put]; exact rfl
    refine Calm.take (i := 25) (v := ?_) (a' := ?_) (l' := #[true, true, true, true, true, true, true, true, true, true, true, true, true, true, true, true, true, true, true, true, true, true, true, false, false, true, false, false, false, false, false, false, false, false, false, false, false, false]) (d := some 76) rfl (by kernel_rfl) (by kernel_rfl) (by kernel_rfl) (by kernel_rfl) (fun _ _ _ h => h) HF.out (by kernel_rfl) ?_ rfl rfl ?_ ?_
    rotate_left
    · intro w' hF; have f10 := hF.2.1.cell0; have f11 := hF.2.1.cell1; have f12 := hF.2.1.cell2; have f13 := hF.2.1.cell3; have f20 := hF.2.2.1.cell0; have f21 := hF.2.2.1.cell1; have f22 := hF.2.2.1.cell2; have f23 := hF.2.2.1.cell3; clear hF; go_simp; try rfl
    rotate_left
    · simp only [Act.put]; exact rfl
    refine Calm.one (i := 23) (l' := #[true, true, true, true, true, true, true, true, true, true, true, true, true, true, true, true, true, true, true, true, true, true, true, true, false, true, false, false, false, false, false, false, false, false, false, false, false, false]) (by kernel_rfl) rfl (by kernel_rfl) rfl fun K hK => ?_
    go_simp
    refine (rtfloor_any _ q _ HF.out.2.2.2.1 SQ8.out).mono ?_
    rintro e y6 ⟨v, rfl, n, hb⟩
    have HF' := hide (And.intro (HF.out.1.trans ((hb).mono HF.out.1.size)) (And.intro (HF.out.2.1.step (hb)) (And.intro (HF.out.2.2.1.step (hb)) (And.intro (HF.out.2.2.2.1.below (hb)) (HF.out.2.2.2.2.below (hb))))))
    have T1 := hide (n)
    refine hK _ _ (fun _ => HF'.out) ?_
    clear hK K HF hb n
    have HF := hide HF'.out
    clear HF'
    refine Calm.one (i := 24) (l' := #[true, true, true, true, true, true, true, true, true, true, true, true, true, true, true, true, true, true, true, true, true, true, true, true, true, true, false, false, false, false, false, false, false, false, false, false, false, false]) (by kernel_rfl) rfl (by kernel_rfl) rfl fun K hK => ?_
    go_simp
    refine (itext_any _ q.floor _ T1.out (SzI.len SF.out (by decide))).mono ?_
    rintro e y7 ⟨rfl, hb⟩
    clear T1
    have HF' := hide (And.intro (HF.out.1.trans ((hb).mono HF.out.1.size)) (And.intro (HF.out.2.1.step (hb)) (And.intro (HF.out.2.2.1.step (hb)) (And.intro (HF.out.2.2.2.1.below (hb)) (HF.out.2.2.2.2.below (hb))))))
    refine hK _ _ (fun _ => HF'.out) ?_
    clear hK K HF hb
    have HF := hide HF'.out
    clear HF'
    refine Calm.one (i := 26) (l' := #[true, true, true, true, true, true, true, true, true, true, true, true, true, true, true, true, true, true, true, true, true, true, true, true, true, true, true, false, false, false, false, false, false, false, false, false, false, false]) (by kernel_rfl) rfl (by kernel_rfl) rfl fun K hK => ?_
    go_simp
    refine (r3floor_any _ q _ HF.out.2.2.2.2 SQ5.out).mono ?_
    rintro e y8 ⟨v, rfl, n, hb⟩
    have HF' := hide (And.intro (HF.out.1.trans ((hb).mono HF.out.1.size)) (And.intro (HF.out.2.1.step (hb)) (And.intro (HF.out.2.2.1.step (hb)) (And.intro (HF.out.2.2.2.1.below (hb)) (HF.out.2.2.2.2.below (hb))))))
    have T2 := hide (n)
    refine hK _ _ (fun _ => HF'.out) ?_
    clear hK K HF hb n
    have HF := hide HF'.out
    clear HF'
    refine Calm.one (i := 27) (l' := #[true, true, true, true, true, true, true, true, true, true, true, true, true, true, true, true, true, true, true, true, true, true, true, true, true, true, true, true, false, false, false, false, false, false, false, false, false, false]) (by kernel_rfl) rfl (by kernel_rfl) rfl fun K hK => ?_
    go_simp
    refine (rtext2_any _ q.floor _ T2.out (SzI.d6 SF.out (by decide))).mono ?_
    rintro e y9 ⟨rfl, hb⟩
    clear T2
    have HF' := hide (And.intro (HF.out.1.trans ((hb).mono HF.out.1.size)) (And.intro (HF.out.2.1.step (hb)) (And.intro (HF.out.2.2.1.step (hb)) (And.intro (HF.out.2.2.2.1.below (hb)) (HF.out.2.2.2.2.below (hb))))))
    refine hK _ _ (fun _ => HF'.out) ?_
    clear hK K HF hb
    have HF := hide HF'.out
    clear HF'
    refine Calm.take (i := 28) (v := ?_) (a' := ?_) (l' := #[true, true, true, true, true, true, true, true, true, true, true, true, true, true, true, true, true, true, true, true, true, true, true, true, true, true, true, true, true, false, false, false, false, false, false, false, false, false]) (d := some 79) rfl (by kernel_rfl) (by kernel_rfl) (by kernel_rfl) (by kernel_rfl) (fun _ _ _ h => h) HF.out (by kernel_rfl) ?_ rfl rfl ?_ ?_
    rotate_left
    · intro w' hF; clear hF; go_simp; try rfl
    rotate_left
    · simp only [Act.put]; exact rfl
    refine Calm.take (i := 29) (v := ?_) (a' := ?_) (l' := #[true, true, true, true, true, true, true, true, true, true, true, true, true, true, true, true, true, true, true, true, true, true, true, true, true, true, true, true, true, true, false, false, false, false, false, false, false, false]) (d := some 80) rfl (by kernel_rfl) (by kernel_rfl) (by kernel_rfl) (by kernel_rfl) (fun _ _ _ h => h) HF.out rfl ?_ rfl rfl ?_ ?_
    rotate_left
    · intro w' hF; clear hF; go_simp; try rfl
    rotate_left
    · simp only [Act.put]; exact rfl
    refine Calm.take (i := 30) (v := ?_) (a' := ?_) (l' := #[true, true, true, true, true, true, true, true, true, true, true, true, true, true, true, true, true, true, true, true, true, true, true, true, true, true, true, true, true, true, true, false, false, false, false, false, false, false]) (d := some 81) rfl (by kernel_rfl) (by kernel_rfl) (by kernel_rfl) (by kernel_rfl) (fun _ _ _ h => h) HF.out rfl ?_ rfl rfl ?_ ?_
    rotate_left
    · intro w' hF; clear hF; go_simp; try rfl
    rotate_left
    · simp only [Act.put]; exact rfl
    refine Calm.take (i := 31) (v := ?_) (a' := ?_) (l' := #[true, true, true, true, true, true, true, true, true, true, true, true, true, true, true, true, true, true, true, true, true, true, true, true, true, true, true, true, true, true, true, true, false, false, false, false, false, false]) (d := some 82) rfl (by kernel_rfl) (by kernel_rfl) (by kernel_rfl) (by kernel_rfl) (fun _ _ _ h => h) HF.out (by kernel_rfl) ?_ rfl rfl ?_ ?_
    rotate_left
    · intro w' hF; have f10 := hF.2.1.cell0; have f11 := hF.2.1.cell1; have f12 := hF.2.1.cell2; have f13 := hF.2.1.cell3; have f20 := hF.2.2.1.cell0; have f21 := hF.2.2.1.cell1; have f22 := hF.2.2.1.cell2; have f23 := hF.2.2.1.cell3; clear hF; go_simp; try rfl
    rotate_left
    · simp only [Act.put]; exact rfl
    refine Calm.take (i := 33) (v := ?_) (a' := ?_) (l' := #[true, true, true, true, true, true, true, true, true, true, true, true, true, true, true, true, true, true, true, true, true, true, true, true, true, true, true, true, true, true, true, true, false, true, false, false, false, false]) (d := some 84) rfl (by kernel_rfl) (by kernel_rfl) (by kernel_rfl) (by kernel_rfl) (fun _ _ _ h => h) HF.out (by kernel_rfl) ?_ rfl rfl ?_ ?_
    rotate_left
    · intro w' hF; have f10 := hF.2.1.cell0; have f11 := hF.2.1.cell1; have f12 := hF.2.1.cell2; have f13 := hF.2.1.cell3; have f20 := hF.2.2.1.cell0; have f21 := hF.2.2.1.cell1; have f22 := hF.2.2.1.cell2; have f23 := hF.2.2.1.cell3; clear hF; go_simp; try rfl
    rotate_left
    · simp only [Act.put]; exact rfl
    refine Calm.one (i := 32) (l' := #[true, true, true, true, true, true, true, true, true, true, true, true, true, true, true, true, true, true, true, true, true, true, true, true, true, true, true, true, true, true, true, true, true, true, false, false, false, false]) (by kernel_rfl) rfl (by kernel_rfl) rfl fun K hK => ?_
    go_simp
    refine (rttext_any _ q _ HF.out.2.2.2.1 SQ8.out).mono ?_
    rintro e ya ⟨rfl, hb⟩
    have HF' := hide (And.intro (HF.out.1.trans ((hb).mono HF.out.1.size)) (And.intro (HF.out.2.1.step (hb)) (And.intro (HF.out.2.2.1.step (hb)) (And.intro (HF.out.2.2.2.1.below (hb)) (HF.out.2.2.2.2.below (hb))))))
    refine hK _ _ (fun _ => HF'.out) ?_
    clear hK K HF hb
    have HF := hide HF'.out
    clear HF'
    refine Calm.one (i := 34) (l' := #[true, true, true, true, true, true, true, true, true, true, true, true, true, true, true, true, true, true, true, true, true, true, true, true, true, true, true, true, true, true, true, true, true, true, true, false, false, false]) (by kernel_rfl) rfl (by kernel_rfl) rfl fun K hK => ?_
    go_simp
    refine (r3text_any _ q _ HF.out.2.2.2.2 SQ4.out).mono ?_
    rintro e yb ⟨rfl, hb⟩
    have HF' := hide (And.intro (HF.out.1.trans ((hb).mono HF.out.1.size)) (And.intro (HF.out.2.1.step (hb)) (And.intro (HF.out.2.2.1.step (hb)) (And.intro (HF.out.2.2.2.1.below (hb)) (HF.out.2.2.2.2.below (hb))))))
    refine hK _ _ (fun _ => HF'.out) ?_
    clear hK K HF hb
    have HF := hide HF'.out
    clear HF'
    refine Calm.take (i := 35) (v := ?_) (a' := ?_) (l' := #[true, true, true, true, true, true, true, true, true, true, true, true, true, true, true, true, true, true, true, true, true, true, true, true, true, true, true, true, true, true, true, true, true, true, true, true, false, false]) (d := some 86) rfl (by kernel_rfl) (by kernel_rfl) (by kernel_rfl) (by kernel_rfl) (fun _ _ _ h => h) HF.out (by kernel_rfl) ?_ rfl rfl ?_ ?_
    rotate_left
    · intro w' hF; clear hF; go_simp; try rfl
    rotate_left
    · simp only [Act.put]; exact rfl
    refine Calm.take (i := 36) (v := ?_) (a' := ?_) (l' := #[true, true, true, true, true, true, true, true, true, true, true, true, true, true, true, true, true, true, true, true, true, true, true, true, true, true, true, true, true, true, true, true, true, true, true, true, true, false]) (d := some 87) rfl (by kernel_rfl) (by kernel_rfl) (by kernel_rfl) (by kernel_rfl) (fun _ _ _ h => h) HF.out rfl ?_ rfl rfl ?_ ?_
    rotate_left
    · intro w' hF; clear hF; go_simp; try rfl
    rotate_left
    · simp only [Act.put]; exact rfl
    refine Calm.take (i := 37) (v := ?_) (a' := ?_) (l' := #[true, true, true, true, true, true, true, true, true, true, true, true, true, true, true, true, true, true, true, true, true, true, true, true, true, true, true, true, true, true, true, true, true, true, true, true, true, true]) (d := some 2) rfl (by kernel_rfl) (by kernel_rfl) (by kernel_rfl) (by kernel_rfl) (fun _ _ _ h => h) HF.out rfl ?_ rfl rfl ?_ ?_
    rotate_left
    · intro w' hF; clear hF; go_simp; try rfl
    rotate_left
    · simp only [Act.put]; exact rfl
    refine Calm.done (by kernel_rfl) ?_
    replace HB := hide HF.out.1
    replace V5 := hide HF.out.2.1
    replace V6 := hide HF.out.2.2.1
    replace I5 := hide HF.out.2.2.2.1
    replace I6 := hide HF.out.2.2.2.2
    clear HF
    try simp only [List.setIfInBounds_toArray, List.set_cons_succ, List.set_cons_zero]
    go_wp2
    go_ret
    exact ⟨rfl, HB.out⟩
end Go.Proofs.Ytbaicocncalfaaa
