/- swagelaw03.RatioKnown answers true, and turns nothing that was there. -/
import Derived.Test.YtgkibmigbjjnnaaRKn
import Derived.Deep.Cut
namespace Go.Proofs.Ytgkibmigbjjnnaa
open Go.RowKit

set_option maxRecDepth 100000 in
set_option maxHeartbeats 32000000 in
theorem rknown_walk (w : World) :
    Calls Try.prog 3 #[] w fun e w' => e = .returned (.bool true) ∧ Below w.heap.size w w' := by
  have HB := hide (Below.refl w.heap.size w)
  go_enter Try.func3, Try.ntmps3
  go_wp2_with fail
  refine (works3_any _).mono ?_
  rintro e u1 ⟨rfl, hb⟩
  replace HB := hide (HB.out.trans ((hb).mono HB.out.size))
  clear hb
  go_wp2_with fail
  refine (iof_any 1 _ (by decide) (by decide)).mono ?_
  rintro e u2 ⟨vu2, rfl, n, hb⟩
  replace HB := hide (HB.out.trans ((hb).mono HB.out.size))
  have T1 := hide n
  clear n hb
  go_wp2_with fail
  refine (iof_any 0 _ (by decide) (by decide)).mono ?_
  rintro e u3 ⟨vu3, rfl, n, hb⟩
  replace HB := hide (HB.out.trans ((hb).mono HB.out.size))
  replace T1 := hide (T1.out.below (hb))
  have T2 := hide n
  clear n hb
  go_wp2_with fail
  refine (rtmake_zero _ _ 1 0 _ T1.out T2.out rfl).mono ?_
  rintro e u4 ⟨vu4, rfl, n, hb⟩
  replace HB := hide (HB.out.trans ((hb).mono HB.out.size))
  replace T1 := hide (T1.out.below (hb))
  replace T2 := hide (T2.out.below (hb))
  obtain ⟨s1, m1, n1, c1, t1, o1, p1, d1, rfl, n⟩ := n.cells
  have X1 := hide n
  clear n hb
  clear T1
  clear T2
  go_upto_region 5 with fail
  have al := below_alloc u4 (.cells #[.bool s1, .slice m1 n1 c1, .bool t1, .slice o1 p1 d1] 27)
  replace HB := hide (HB.out.trans ((al).mono HB.out.size))
  replace X1 := hide (X1.out.below (al))
  have V2 := hide (Box4.new u4 (.bool s1) (.slice m1 n1 c1) (.bool t1) (.slice o1 p1 d1))
  clear al
  generalize u4.alloc (.cells #[.bool s1, .slice m1 n1 c1, .bool t1, .slice o1 p1 d1] 27) = u4a at *
  generalize u4.heap.size = g2 at *
  clear V2
  clear X1
  go_wp2_with fail
  refine (iof_any 0 _ (by decide) (by decide)).mono ?_
  rintro e u5 ⟨vu5, rfl, n, hb⟩
  replace HB := hide (HB.out.trans ((hb).mono HB.out.size))
  have T1 := hide n
  clear n hb
  go_wp2_with fail
  refine (iof_any (-5) _ (by decide) (by decide)).mono ?_
  rintro e u6 ⟨vu6, rfl, n, hb⟩
  replace HB := hide (HB.out.trans ((hb).mono HB.out.size))
  replace T1 := hide (T1.out.below (hb))
  have T2 := hide n
  clear n hb
  go_wp2_with fail
  refine (rtmake_any _ _ 0 (-5) _ T1.out T2.out (Nat.le_trans (lim_length_le (k := 1) (by decide)) (by decide)) (Nat.le_trans (lim_length_le (k := 1) (by decide)) (by decide)) (by decide)).mono ?_
  rintro e u7 ⟨vu7, rfl, n, hb⟩
  replace HB := hide (HB.out.trans ((hb).mono HB.out.size))
  replace T1 := hide (T1.out.below (hb))
  replace T2 := hide (T2.out.below (hb))
  obtain ⟨s4, m4, n4, c4, t4, o4, p4, d4, rfl, n⟩ := n.cells
  have I4 := hide n
  clear n hb
  clear T1
  clear T2
  go_upto_region 6 with fail
  have al := below_alloc u7 (.cells #[.bool s4, .slice m4 n4 c4, .bool t4, .slice o4 p4 d4] 27)
  replace HB := hide (HB.out.trans ((al).mono HB.out.size))
  replace I4 := hide (I4.out.below (al))
  have V4 := hide (Box4.new u7 (.bool s4) (.slice m4 n4 c4) (.bool t4) (.slice o4 p4 d4))
  clear al
  generalize u7.alloc (.cells #[.bool s4, .slice m4 n4 c4, .bool t4, .slice o4 p4 d4] 27) = u7a at *
  generalize u7.heap.size = g4 at *
  have I4' : Hid (RatAt u7a (.agg #[.bool s4, .slice m4 n4 c4, .bool t4, .slice o4 p4 d4]) qz) := hide I4.out
  clear I4
  have I4 := hide I4'.out
  clear I4'
  go_wp2_with fail
  refine (kof_any ⟨#[49, 47, 50]⟩ q12 _ (by kernel_rfl) (by decide)).mono ?_
  rintro e u8 ⟨vu8, rfl, n, hb⟩
  replace HB := hide (HB.out.trans ((hb).mono HB.out.size))
  replace I4 := hide (I4.out.below (hb))
  replace V4 := hide (V4.out.step (hb))
  have T1 := hide n
  clear n hb
  go_wp2_with fail
  refine (kof_any ⟨#[48]⟩ 0 _ (by kernel_rfl) (by decide)).mono ?_
  rintro e u9 ⟨vu9, rfl, n, hb⟩
  replace HB := hide (HB.out.trans ((hb).mono HB.out.size))
  replace I4 := hide (I4.out.below (hb))
  replace V4 := hide (V4.out.step (hb))
  replace T1 := hide (T1.out.below (hb))
  have T2 := hide n
  clear n hb
  go_wp2_with fail
  refine (rtover_zero _ _ q12 0 _ T1.out T2.out rfl).mono ?_
  rintro e u10 ⟨vu10, rfl, n, hb⟩
  replace HB := hide (HB.out.trans ((hb).mono HB.out.size))
  replace I4 := hide (I4.out.below (hb))
  replace V4 := hide (V4.out.step (hb))
  replace T1 := hide (T1.out.below (hb))
  replace T2 := hide (T2.out.below (hb))
  obtain ⟨s1, m1, n1, c1, t1, o1, p1, d1, rfl, n⟩ := n.cells
  have X1 := hide n
  clear n hb
  clear T1
  clear T2
  go_upto_region 7 with fail
  have al := below_alloc u10 (.cells #[.bool s1, .slice m1 n1 c1, .bool t1, .slice o1 p1 d1] 27)
  replace HB := hide (HB.out.trans ((al).mono HB.out.size))
  replace I4 := hide (I4.out.below (al))
  replace V4 := hide (V4.out.step (al))
  replace X1 := hide (X1.out.below (al))
  have V6 := hide (Box4.new u10 (.bool s1) (.slice m1 n1 c1) (.bool t1) (.slice o1 p1 d1))
  clear al
  generalize u10.alloc (.cells #[.bool s1, .slice m1 n1 c1, .bool t1, .slice o1 p1 d1] 27) = u10a at *
  generalize u10.heap.size = g6 at *
  clear V6
  clear X1
  go_wp2_with fail
  refine (kof_any ⟨#[49, 47, 50]⟩ q12 _ (by kernel_rfl) (by decide)).mono ?_
  rintro e u11 ⟨vu11, rfl, n, hb⟩
  replace HB := hide (HB.out.trans ((hb).mono HB.out.size))
  replace I4 := hide (I4.out.below (hb))
  replace V4 := hide (V4.out.step (hb))
  have T1 := hide n
  clear n hb
  go_wp2_with fail
  refine (kof_any ⟨#[49, 47, 51]⟩ q13 _ (by kernel_rfl) (by decide)).mono ?_
  rintro e u12 ⟨vu12, rfl, n, hb⟩
  replace HB := hide (HB.out.trans ((hb).mono HB.out.size))
  replace I4 := hide (I4.out.below (hb))
  replace V4 := hide (V4.out.step (hb))
  replace T1 := hide (T1.out.below (hb))
  have T2 := hide n
  clear n hb
  go_wp2_with fail
  refine (rtover_any _ _ q12 q13 _ T1.out T2.out ((szr1 (by kernel_rfl) (by kernel_rfl)).mono (by decide)) ((szr1 (by kernel_rfl) (by kernel_rfl)).mono (by decide)) q13_ne).mono ?_
  rintro e u13 ⟨vu13, rfl, n, hb⟩
  replace HB := hide (HB.out.trans ((hb).mono HB.out.size))
  replace I4 := hide (I4.out.below (hb))
  replace V4 := hide (V4.out.step (hb))
  replace T1 := hide (T1.out.below (hb))
  replace T2 := hide (T2.out.below (hb))
  obtain ⟨s8, m8, n8, c8, t8, o8, p8, d8, rfl, n⟩ := n.cells
  have I8 := hide n
  clear n hb
  clear T1
  clear T2
  go_upto_region 8 with fail
  have al := below_alloc u13 (.cells #[.bool s8, .slice m8 n8 c8, .bool t8, .slice o8 p8 d8] 27)
  replace HB := hide (HB.out.trans ((al).mono HB.out.size))
  replace I4 := hide (I4.out.below (al))
  replace V4 := hide (V4.out.step (al))
  replace I8 := hide (I8.out.below (al))
  have V8 := hide (Box4.new u13 (.bool s8) (.slice m8 n8 c8) (.bool t8) (.slice o8 p8 d8))
  clear al
  generalize u13.alloc (.cells #[.bool s8, .slice m8 n8 c8, .bool t8, .slice o8 p8 d8] 27) = u13a at *
  generalize u13.heap.size = g8 at *
  have hV40 := V4.out.cell0
  have hV41 := V4.out.cell1
  have hV42 := V4.out.cell2
  have hV43 := V4.out.cell3
  go_wp2_with fail
  clear hV40 hV41 hV42 hV43
  refine (ktxt_any _ qz ⟨#[48]⟩ _ I4.out (szr1 (by kernel_rfl) (by kernel_rfl)) (by kernel_rfl)).mono ?_
  rintro e u14 ⟨rfl, hb⟩
  replace HB := hide (HB.out.trans ((hb).mono HB.out.size))
  replace I4 := hide (I4.out.below (hb))
  replace V4 := hide (V4.out.step (hb))
  replace I8 := hide (I8.out.below (hb))
  replace V8 := hide (V8.out.step (hb))
  clear hb
  have hV80 := V8.out.cell0
  have hV81 := V8.out.cell1
  have hV82 := V8.out.cell2
  have hV83 := V8.out.cell3
  go_wp2_with fail
  clear hV80 hV81 hV82 hV83
  refine (ktxt_any _ (q12 / q13) ⟨#[51, 47, 50]⟩ _ I8.out (szr1 (by kernel_rfl) (by kernel_rfl)) (by kernel_rfl)).mono ?_
  rintro e u15 ⟨rfl, hb⟩
  replace HB := hide (HB.out.trans ((hb).mono HB.out.size))
  replace I4 := hide (I4.out.below (hb))
  replace V4 := hide (V4.out.step (hb))
  replace I8 := hide (I8.out.below (hb))
  replace V8 := hide (V8.out.step (hb))
  clear hb
  clear V8
  clear I8
  go_upto_region 11 with fail
  have al := below_alloc u15 (.cells #[.bool false, .slice none 0 0, .bool false, .slice none 0 0] 27)
  replace HB := hide (HB.out.trans ((al).mono HB.out.size))
  replace I4 := hide (I4.out.below (al))
  replace V4 := hide (V4.out.step (al))
  have VN := hide (Box4.new u15 (.bool false) (.slice none 0 0) (.bool false) (.slice none 0 0))
  clear al
  generalize u15.alloc (.cells #[.bool false, .slice none 0 0, .bool false, .slice none 0 0] 27) = u15a at *
  generalize u15.heap.size = gn at *
  have IN : Hid (RatAt u15a (.agg #[.bool false, .slice none 0 0, .bool false, .slice none 0 0]) 0) := hide (zero_rat _)
  go_wp2_with fail
  refine wp_calm (fun w' => Below w.heap.size w w' ∧ Box4 w' gn (.bool false) (.slice none 0 0) (.bool false) (.slice none 0 0) ∧ RatAt w' (.agg #[.bool false, .slice none 0 0, .bool false, .slice none 0 0]) 0 ∧ Box4 w' g4 (.bool s4) (.slice m4 n4 c4) (.bool t4) (.slice o4 p4 d4) ∧ RatAt w' (.agg #[.bool s4, .slice m4 n4 c4, .bool t4, .slice o4 p4 d4]) qz) (fun _ => true) 47 #[false, false, false, false, false, false, false, false, false, false, false, false, false, false, false, false, false, false, false, false, false, false, false, false, false, false, false, false, false, false, false, false, false, false, false, false, false, false, false, false, false, false, false, false, false, false, false] (by kernel_rfl) rfl rfl ?_
  have HF := hide (And.intro (HB.out.drew) (And.intro (VN.out.drew) (And.intro (IN.out.drew) (And.intro (V4.out.drew) (I4.out.drew)))))
  generalize u15a.drew = u15ad at *
  refine Calm.takeL 47 (i := 0) (v := ?_) (a' := ?_) (l' := #[true, false, false, false, false, false, false, false, false, false, false, false, false, false, false, false, false, false, false, false, false, false, false, false, false, false, false, false, false, false, false, false, false, false, false, false, false, false, false, false, false, false, false, false, false, false, false]) (d := some 73) (by kernel_rfl) rfl (by kernel_rfl) (by kernel_rfl) (by kernel_rfl) (by kernel_rfl) (fun _ _ _ h => h) HF.out rfl ?_ rfl rfl ?_ ?_
  rotate_left
  · intro w' hF; have f10 := hF.2.1.cell0; have f11 := hF.2.1.cell1; have f12 := hF.2.1.cell2; have f13 := hF.2.1.cell3; have f30 := hF.2.2.2.1.cell0; have f31 := hF.2.2.2.1.cell1; have f32 := hF.2.2.2.1.cell2; have f33 := hF.2.2.2.1.cell3; clear hF; go_simp; try rfl
  rotate_left
  · simp only [Act.put]; exact rfl
  refine Calm.one (i := 1) (l' := #[true, true, false, false, false, false, false, false, false, false, false, false, false, false, false, false, false, false, false, false, false, false, false, false, false, false, false, false, false, false, false, false, false, false, false, false, false, false, false, false, false, false, false, false, false, false, false]) (by kernel_rfl) rfl rfl rfl fun K hK => ?_
  go_simp
  refine (ktxt_any _ 0 ⟨#[48]⟩ _ HF.out.2.2.1 (szr1 (by kernel_rfl) (by kernel_rfl)) (by kernel_rfl)).mono ?_
  rintro e y1 ⟨rfl, hb⟩
  have HF' := hide (And.intro (HF.out.1.trans ((hb).mono HF.out.1.size)) (And.intro (HF.out.2.1.step (hb)) (And.intro (HF.out.2.2.1.below (hb)) (And.intro (HF.out.2.2.2.1.step (hb)) (HF.out.2.2.2.2.below (hb))))))
  refine hK _ _ (fun _ => HF'.out) ?_
  clear hK K HF hb
  have HF := hide HF'.out
  clear HF'
  refine Calm.takeL 47 (i := 2) (v := ?_) (a' := ?_) (l' := #[true, true, true, false, false, false, false, false, false, false, false, false, false, false, false, false, false, false, false, false, false, false, false, false, false, false, false, false, false, false, false, false, false, false, false, false, false, false, false, false, false, false, false, false, false, false, false]) (d := some 75) (by kernel_rfl) rfl (by kernel_rfl) (by kernel_rfl) (by kernel_rfl) (by kernel_rfl) (fun _ _ _ h => h) HF.out rfl ?_ rfl rfl ?_ ?_
  rotate_left
  · intro w' hF; clear hF; go_simp; try rfl
  rotate_left
  · simp only [Act.put]; exact rfl
  refine Calm.takeL 47 (i := 3) (v := ?_) (a' := ?_) (l' := #[true, true, true, true, false, false, false, false, false, false, false, false, false, false, false, false, false, false, false, false, false, false, false, false, false, false, false, false, false, false, false, false, false, false, false, false, false, false, false, false, false, false, false, false, false, false, false]) (d := some 76) (by kernel_rfl) rfl (by kernel_rfl) (by kernel_rfl) (by kernel_rfl) (by kernel_rfl) (fun _ _ _ h => h) HF.out rfl ?_ rfl rfl ?_ ?_
  rotate_left
  · intro w' hF; clear hF; go_simp; try rfl
  rotate_left
  · simp only [Act.put]; exact rfl
  refine Calm.takeL 47 (i := 4) (v := ?_) (a' := ?_) (l' := #[true, true, true, true, true, false, false, false, false, false, false, false, false, false, false, false, false, false, false, false, false, false, false, false, false, false, false, false, false, false, false, false, false, false, false, false, false, false, false, false, false, false, false, false, false, false, false]) (d := some 77) (by kernel_rfl) rfl (by kernel_rfl) (by kernel_rfl) (by kernel_rfl) (by kernel_rfl) (fun _ _ _ h => h) HF.out (by kernel_rfl) ?_ rfl rfl ?_ ?_
  rotate_left
  · intro w' hF; have f10 := hF.2.1.cell0; have f11 := hF.2.1.cell1; have f12 := hF.2.1.cell2; have f13 := hF.2.1.cell3; have f30 := hF.2.2.2.1.cell0; have f31 := hF.2.2.2.1.cell1; have f32 := hF.2.2.2.1.cell2; have f33 := hF.2.2.2.1.cell3; clear hF; go_simp; try rfl
  rotate_left
  · simp only [Act.put]; exact rfl
  refine Calm.one (i := 5) (l' := #[true, true, true, true, true, true, false, false, false, false, false, false, false, false, false, false, false, false, false, false, false, false, false, false, false, false, false, false, false, false, false, false, false, false, false, false, false, false, false, false, false, false, false, false, false, false, false]) (by kernel_rfl) rfl (by kernel_rfl) rfl fun K hK => ?_
  go_simp
  refine (den_any _ 0 _ HF.out.2.2.1).mono ?_
  rintro e y2 ⟨v, rfl, n, hb⟩
  have HF' := hide (And.intro (HF.out.1.trans ((hb).mono HF.out.1.size)) (And.intro (HF.out.2.1.step (hb)) (And.intro (HF.out.2.2.1.below (hb)) (And.intro (HF.out.2.2.2.1.step (hb)) (HF.out.2.2.2.2.below (hb))))))
  have T1 := hide (n)
  refine hK _ _ (fun _ => HF'.out) ?_
  clear hK K HF hb n
  have HF := hide HF'.out
  clear HF'
  refine Calm.one (i := 6) (l' := #[true, true, true, true, true, true, true, false, false, false, false, false, false, false, false, false, false, false, false, false, false, false, false, false, false, false, false, false, false, false, false, false, false, false, false, false, false, false, false, false, false, false, false, false, false, false, false]) (by kernel_rfl) rfl (by kernel_rfl) rfl fun K hK => ?_
  go_simp
  refine (kitx_any _ ((0 : Rat).den : Int) ⟨#[49]⟩ _ T1.out (by kernel_rfl) (by kernel_rfl)).mono ?_
  rintro e y3 ⟨rfl, hb⟩
  clear T1
  have HF' := hide (And.intro (HF.out.1.trans ((hb).mono HF.out.1.size)) (And.intro (HF.out.2.1.step (hb)) (And.intro (HF.out.2.2.1.below (hb)) (And.intro (HF.out.2.2.2.1.step (hb)) (HF.out.2.2.2.2.below (hb))))))
  refine hK _ _ (fun _ => HF'.out) ?_
  clear hK K HF hb
  have HF := hide HF'.out
  clear HF'
  refine Calm.takeL 47 (i := 7) (v := ?_) (a' := ?_) (l' := #[true, true, true, true, true, true, true, true, false, false, false, false, false, false, false, false, false, false, false, false, false, false, false, false, false, false, false, false, false, false, false, false, false, false, false, false, false, false, false, false, false, false, false, false, false, false, false]) (d := some 80) (by kernel_rfl) rfl (by kernel_rfl) (by kernel_rfl) (by kernel_rfl) (by kernel_rfl) (fun _ _ _ h => h) HF.out (by kernel_rfl) ?_ rfl rfl ?_ ?_
  rotate_left
  · intro w' hF; clear hF; go_simp; try rfl
  rotate_left
  · simp only [Act.put]; exact rfl
  refine Calm.takeL 47 (i := 8) (v := ?_) (a' := ?_) (l' := #[true, true, true, true, true, true, true, true, true, false, false, false, false, false, false, false, false, false, false, false, false, false, false, false, false, false, false, false, false, false, false, false, false, false, false, false, false, false, false, false, false, false, false, false, false, false, false]) (d := some 81) (by kernel_rfl) rfl (by kernel_rfl) (by kernel_rfl) (by kernel_rfl) (by kernel_rfl) (fun _ _ _ h => h) HF.out rfl ?_ rfl rfl ?_ ?_
  rotate_left
  · intro w' hF; clear hF; go_simp; try rfl
  rotate_left
  · simp only [Act.put]; exact rfl
  refine Calm.takeL 47 (i := 9) (v := ?_) (a' := ?_) (l' := #[true, true, true, true, true, true, true, true, true, true, false, false, false, false, false, false, false, false, false, false, false, false, false, false, false, false, false, false, false, false, false, false, false, false, false, false, false, false, false, false, false, false, false, false, false, false, false]) (d := some 82) (by kernel_rfl) rfl (by kernel_rfl) (by kernel_rfl) (by kernel_rfl) (by kernel_rfl) (fun _ _ _ h => h) HF.out rfl ?_ rfl rfl ?_ ?_
  rotate_left
  · intro w' hF; clear hF; go_simp; try rfl
  rotate_left
  · simp only [Act.put]; exact rfl
  refine Calm.takeL 47 (i := 10) (v := ?_) (a' := ?_) (l' := #[true, true, true, true, true, true, true, true, true, true, true, false, false, false, false, false, false, false, false, false, false, false, false, false, false, false, false, false, false, false, false, false, false, false, false, false, false, false, false, false, false, false, false, false, false, false, false]) (d := some 83) (by kernel_rfl) rfl (by kernel_rfl) (by kernel_rfl) (by kernel_rfl) (by kernel_rfl) (fun _ _ _ h => h) HF.out (by kernel_rfl) ?_ rfl rfl ?_ ?_
  rotate_left
  · intro w' hF; have f10 := hF.2.1.cell0; have f11 := hF.2.1.cell1; have f12 := hF.2.1.cell2; have f13 := hF.2.1.cell3; have f30 := hF.2.2.2.1.cell0; have f31 := hF.2.2.2.1.cell1; have f32 := hF.2.2.2.1.cell2; have f33 := hF.2.2.2.1.cell3; clear hF; go_simp; try rfl
  rotate_left
  · simp only [Act.put]; exact rfl
  refine Calm.one (i := 11) (l' := #[true, true, true, true, true, true, true, true, true, true, true, true, false, false, false, false, false, false, false, false, false, false, false, false, false, false, false, false, false, false, false, false, false, false, false, false, false, false, false, false, false, false, false, false, false, false, false]) (by kernel_rfl) rfl (by kernel_rfl) rfl fun K hK => ?_
  go_simp
  refine (kwhole_any _ 0 _ HF.out.2.2.1 rfl).mono ?_
  rintro e y4 ⟨rfl, hb⟩
  have HF' := hide (And.intro (HF.out.1.trans ((hb).mono HF.out.1.size)) (And.intro (HF.out.2.1.step (hb)) (And.intro (HF.out.2.2.1.below (hb)) (And.intro (HF.out.2.2.2.1.step (hb)) (HF.out.2.2.2.2.below (hb))))))
  refine hK _ _ (fun _ => HF'.out) ?_
  clear hK K HF hb
  have HF := hide HF'.out
  clear HF'
  refine Calm.takeL 47 (i := 12) (v := ?_) (a' := ?_) (l' := #[true, true, true, true, true, true, true, true, true, true, true, true, true, false, false, false, false, false, false, false, false, false, false, false, false, false, false, false, false, false, false, false, false, false, false, false, false, false, false, false, false, false, false, false, false, false, false]) (d := some 85) (by kernel_rfl) rfl (by kernel_rfl) (by kernel_rfl) (by kernel_rfl) (by kernel_rfl) (fun _ _ _ h => h) HF.out (by kernel_rfl) ?_ rfl rfl ?_ ?_
  rotate_left
  · intro w' hF; clear hF; go_simp; try rfl
  rotate_left
  · simp only [Act.put]; exact rfl
  refine Calm.takeL 47 (i := 13) (v := ?_) (a' := ?_) (l' := #[true, true, true, true, true, true, true, true, true, true, true, true, true, true, false, false, false, false, false, false, false, false, false, false, false, false, false, false, false, false, false, false, false, false, false, false, false, false, false, false, false, false, false, false, false, false, false]) (d := some 86) (by kernel_rfl) rfl (by kernel_rfl) (by kernel_rfl) (by kernel_rfl) (by kernel_rfl) (fun _ _ _ h => h) HF.out rfl ?_ rfl rfl ?_ ?_
  rotate_left
  · intro w' hF; clear hF; go_simp; try rfl
  rotate_left
  · simp only [Act.put]; exact rfl
  refine Calm.takeL 47 (i := 14) (v := ?_) (a' := ?_) (l' := #[true, true, true, true, true, true, true, true, true, true, true, true, true, true, true, false, false, false, false, false, false, false, false, false, false, false, false, false, false, false, false, false, false, false, false, false, false, false, false, false, false, false, false, false, false, false, false]) (d := some 87) (by kernel_rfl) rfl (by kernel_rfl) (by kernel_rfl) (by kernel_rfl) (by kernel_rfl) (fun _ _ _ h => h) HF.out rfl ?_ rfl rfl ?_ ?_
  rotate_left
  · intro w' hF; clear hF; go_simp; try rfl
  rotate_left
  · simp only [Act.put]; exact rfl
  refine Calm.takeL 47 (i := 15) (v := ?_) (a' := ?_) (l' := #[true, true, true, true, true, true, true, true, true, true, true, true, true, true, true, true, false, false, false, false, false, false, false, false, false, false, false, false, false, false, false, false, false, false, false, false, false, false, false, false, false, false, false, false, false, false, false]) (d := some 88) (by kernel_rfl) rfl (by kernel_rfl) (by kernel_rfl) (by kernel_rfl) (by kernel_rfl) (fun _ _ _ h => h) HF.out (by kernel_rfl) ?_ rfl rfl ?_ ?_
  rotate_left
  · intro w' hF; have f10 := hF.2.1.cell0; have f11 := hF.2.1.cell1; have f12 := hF.2.1.cell2; have f13 := hF.2.1.cell3; have f30 := hF.2.2.2.1.cell0; have f31 := hF.2.2.2.1.cell1; have f32 := hF.2.2.2.1.cell2; have f33 := hF.2.2.2.1.cell3; clear hF; go_simp; try rfl
  rotate_left
  · simp only [Act.put]; exact rfl
  refine Calm.one (i := 16) (l' := #[true, true, true, true, true, true, true, true, true, true, true, true, true, true, true, true, true, false, false, false, false, false, false, false, false, false, false, false, false, false, false, false, false, false, false, false, false, false, false, false, false, false, false, false, false, false, false]) (by kernel_rfl) rfl (by kernel_rfl) rfl fun K hK => ?_
  go_simp
  refine (ksgn_any _ 0 0 _ HF.out.2.2.1 rfl).mono ?_
  rintro e y5 ⟨rfl, hb⟩
  have HF' := hide (And.intro (HF.out.1.trans ((hb).mono HF.out.1.size)) (And.intro (HF.out.2.1.step (hb)) (And.intro (HF.out.2.2.1.below (hb)) (And.intro (HF.out.2.2.2.1.step (hb)) (HF.out.2.2.2.2.below (hb))))))
  refine hK _ _ (fun _ => HF'.out) ?_
  clear hK K HF hb
  have HF := hide HF'.out
  clear HF'
  refine Calm.takeL 47 (i := 17) (v := ?_) (a' := ?_) (l' := #[true, true, true, true, true, true, true, true, true, true, true, true, true, true, true, true, true, true, false, false, false, false, false, false, false, false, false, false, false, false, false, false, false, false, false, false, false, false, false, false, false, false, false, false, false, false, false]) (d := some 90) (by kernel_rfl) rfl (by kernel_rfl) (by kernel_rfl) (by kernel_rfl) (by kernel_rfl) (fun _ _ _ h => h) HF.out (by kernel_rfl) ?_ rfl rfl ?_ ?_
  rotate_left
  · intro w' hF; clear hF; go_simp; try rfl
  rotate_left
  · simp only [Act.put]; exact rfl
  refine Calm.takeL 47 (i := 18) (v := ?_) (a' := ?_) (l' := #[true, true, true, true, true, true, true, true, true, true, true, true, true, true, true, true, true, true, true, false, false, false, false, false, false, false, false, false, false, false, false, false, false, false, false, false, false, false, false, false, false, false, false, false, false, false, false]) (d := some 91) (by kernel_rfl) rfl (by kernel_rfl) (by kernel_rfl) (by kernel_rfl) (by kernel_rfl) (fun _ _ _ h => h) HF.out rfl ?_ rfl rfl ?_ ?_
  rotate_left
  · intro w' hF; clear hF; go_simp; try rfl
  rotate_left
  · simp only [Act.put]; exact rfl
  refine Calm.takeL 47 (i := 19) (v := ?_) (a' := ?_) (l' := #[true, true, true, true, true, true, true, true, true, true, true, true, true, true, true, true, true, true, true, true, false, false, false, false, false, false, false, false, false, false, false, false, false, false, false, false, false, false, false, false, false, false, false, false, false, false, false]) (d := some 92) (by kernel_rfl) rfl (by kernel_rfl) (by kernel_rfl) (by kernel_rfl) (by kernel_rfl) (fun _ _ _ h => h) HF.out rfl ?_ rfl rfl ?_ ?_
  rotate_left
  · intro w' hF; clear hF; go_simp; try rfl
  rotate_left
  · simp only [Act.put]; exact rfl
  refine Calm.takeL 47 (i := 20) (v := ?_) (a' := ?_) (l' := #[true, true, true, true, true, true, true, true, true, true, true, true, true, true, true, true, true, true, true, true, true, false, false, false, false, false, false, false, false, false, false, false, false, false, false, false, false, false, false, false, false, false, false, false, false, false, false]) (d := some 93) (by kernel_rfl) rfl (by kernel_rfl) (by kernel_rfl) (by kernel_rfl) (by kernel_rfl) (fun _ _ _ h => h) HF.out (by kernel_rfl) ?_ rfl rfl ?_ ?_
  rotate_left
  · intro w' hF; have f10 := hF.2.1.cell0; have f11 := hF.2.1.cell1; have f12 := hF.2.1.cell2; have f13 := hF.2.1.cell3; have f30 := hF.2.2.2.1.cell0; have f31 := hF.2.2.2.1.cell1; have f32 := hF.2.2.2.1.cell2; have f33 := hF.2.2.2.1.cell3; clear hF; go_simp; try rfl
  rotate_left
  · simp only [Act.put]; exact rfl
  refine Calm.takeL 47 (i := 21) (v := ?_) (a' := ?_) (l' := #[true, true, true, true, true, true, true, true, true, true, true, true, true, true, true, true, true, true, true, true, true, true, false, false, false, false, false, false, false, false, false, false, false, false, false, false, false, false, false, false, false, false, false, false, false, false, false]) (d := some 94) (by kernel_rfl) rfl (by kernel_rfl) (by kernel_rfl) (by kernel_rfl) (by kernel_rfl) (fun _ _ _ h => h) HF.out (by kernel_rfl) ?_ rfl rfl ?_ ?_
  rotate_left
  · intro w' hF; clear hF; go_simp; try rfl
  rotate_left
  · simp only [Act.put]; exact rfl
  refine Calm.one (i := 22) (l' := #[true, true, true, true, true, true, true, true, true, true, true, true, true, true, true, true, true, true, true, true, true, true, true, false, false, false, false, false, false, false, false, false, false, false, false, false, false, false, false, false, false, false, false, false, false, false, false]) (by kernel_rfl) rfl (by kernel_rfl) rfl fun K hK => ?_
  go_simp
  refine (kof_any ⟨#[49, 47, 50]⟩ q12 _ (by kernel_rfl) (by decide)).mono ?_
  rintro e y6 ⟨v, rfl, n, hb⟩
  have HF' := hide (And.intro (HF.out.1.trans ((hb).mono HF.out.1.size)) (And.intro (HF.out.2.1.step (hb)) (And.intro (HF.out.2.2.1.below (hb)) (And.intro (HF.out.2.2.2.1.step (hb)) (HF.out.2.2.2.2.below (hb))))))
  have T2 := hide (n)
  refine hK _ _ (fun _ => HF'.out) ?_
  clear hK K HF hb n
  have HF := hide HF'.out
  clear HF'
  refine Calm.one (i := 23) (l' := #[true, true, true, true, true, true, true, true, true, true, true, true, true, true, true, true, true, true, true, true, true, true, true, true, false, false, false, false, false, false, false, false, false, false, false, false, false, false, false, false, false, false, false, false, false, false, false]) (by kernel_rfl) rfl (by kernel_rfl) rfl fun K hK => ?_
  go_simp
  refine (rtadd_any _ _ 0 q12 _ HF.out.2.2.1 T2.out ((szr1 (by kernel_rfl) (by kernel_rfl)).mono (by decide)) ((szr1 (by kernel_rfl) (by kernel_rfl)).mono (by decide))).mono ?_
  rintro e y7 ⟨v, rfl, n, hb⟩
  clear T2
  have HF' := hide (And.intro (HF.out.1.trans ((hb).mono HF.out.1.size)) (And.intro (HF.out.2.1.step (hb)) (And.intro (HF.out.2.2.1.below (hb)) (And.intro (HF.out.2.2.2.1.step (hb)) (HF.out.2.2.2.2.below (hb))))))
  have T3 := hide (n)
  refine hK _ _ (fun _ => HF'.out) ?_
  clear hK K HF hb n
  have HF := hide HF'.out
  clear HF'
  refine Calm.one (i := 24) (l' := #[true, true, true, true, true, true, true, true, true, true, true, true, true, true, true, true, true, true, true, true, true, true, true, true, true, false, false, false, false, false, false, false, false, false, false, false, false, false, false, false, false, false, false, false, false, false, false]) (by kernel_rfl) rfl (by kernel_rfl) rfl fun K hK => ?_
  go_simp
  refine (ktxt_any _ (0 + q12) ⟨#[49, 47, 50]⟩ _ T3.out (szr1 (by kernel_rfl) (by kernel_rfl)) (by kernel_rfl)).mono ?_
  rintro e y8 ⟨rfl, hb⟩
  clear T3
  have HF' := hide (And.intro (HF.out.1.trans ((hb).mono HF.out.1.size)) (And.intro (HF.out.2.1.step (hb)) (And.intro (HF.out.2.2.1.below (hb)) (And.intro (HF.out.2.2.2.1.step (hb)) (HF.out.2.2.2.2.below (hb))))))
  refine hK _ _ (fun _ => HF'.out) ?_
  clear hK K HF hb
  have HF := hide HF'.out
  clear HF'
  refine Calm.takeL 47 (i := 25) (v := ?_) (a' := ?_) (l' := #[true, true, true, true, true, true, true, true, true, true, true, true, true, true, true, true, true, true, true, true, true, true, true, true, true, true, false, false, false, false, false, false, false, false, false, false, false, false, false, false, false, false, false, false, false, false, false]) (d := some 98) (by kernel_rfl) rfl (by kernel_rfl) (by kernel_rfl) (by kernel_rfl) (by kernel_rfl) (fun _ _ _ h => h) HF.out (by kernel_rfl) ?_ rfl rfl ?_ ?_
  rotate_left
  · intro w' hF; clear hF; go_simp; try rfl
  rotate_left
  · simp only [Act.put]; exact rfl
  refine Calm.takeL 47 (i := 26) (v := ?_) (a' := ?_) (l' := #[true, true, true, true, true, true, true, true, true, true, true, true, true, true, true, true, true, true, true, true, true, true, true, true, true, true, true, false, false, false, false, false, false, false, false, false, false, false, false, false, false, false, false, false, false, false, false]) (d := some 99) (by kernel_rfl) rfl (by kernel_rfl) (by kernel_rfl) (by kernel_rfl) (by kernel_rfl) (fun _ _ _ h => h) HF.out rfl ?_ rfl rfl ?_ ?_
  rotate_left
  · intro w' hF; clear hF; go_simp; try rfl
  rotate_left
  · simp only [Act.put]; exact rfl
  refine Calm.takeL 47 (i := 27) (v := ?_) (a' := ?_) (l' := #[true, true, true, true, true, true, true, true, true, true, true, true, true, true, true, true, true, true, true, true, true, true, true, true, true, true, true, true, false, false, false, false, false, false, false, false, false, false, false, false, false, false, false, false, false, false, false]) (d := some 100) (by kernel_rfl) rfl (by kernel_rfl) (by kernel_rfl) (by kernel_rfl) (by kernel_rfl) (fun _ _ _ h => h) HF.out rfl ?_ rfl rfl ?_ ?_
  rotate_left
  · intro w' hF; clear hF; go_simp; try rfl
  rotate_left
  · simp only [Act.put]; exact rfl
  refine Calm.takeL 47 (i := 28) (v := ?_) (a' := ?_) (l' := #[true, true, true, true, true, true, true, true, true, true, true, true, true, true, true, true, true, true, true, true, true, true, true, true, true, true, true, true, true, false, false, false, false, false, false, false, false, false, false, false, false, false, false, false, false, false, false]) (d := some 101) (by kernel_rfl) rfl (by kernel_rfl) (by kernel_rfl) (by kernel_rfl) (by kernel_rfl) (fun _ _ _ h => h) HF.out (by kernel_rfl) ?_ rfl rfl ?_ ?_
  rotate_left
  · intro w' hF; have f10 := hF.2.1.cell0; have f11 := hF.2.1.cell1; have f12 := hF.2.1.cell2; have f13 := hF.2.1.cell3; have f30 := hF.2.2.2.1.cell0; have f31 := hF.2.2.2.1.cell1; have f32 := hF.2.2.2.1.cell2; have f33 := hF.2.2.2.1.cell3; clear hF; go_simp; try rfl
  rotate_left
  · simp only [Act.put]; exact rfl
  refine Calm.takeL 47 (i := 29) (v := ?_) (a' := ?_) (l' := #[true, true, true, true, true, true, true, true, true, true, true, true, true, true, true, true, true, true, true, true, true, true, true, true, true, true, true, true, true, true, false, false, false, false, false, false, false, false, false, false, false, false, false, false, false, false, false]) (d := some 102) (by kernel_rfl) rfl (by kernel_rfl) (by kernel_rfl) (by kernel_rfl) (by kernel_rfl) (fun _ _ _ h => h) HF.out (by kernel_rfl) ?_ rfl rfl ?_ ?_
  rotate_left
  · intro w' hF; clear hF; go_simp; try rfl
  rotate_left
  · simp only [Act.put]; exact rfl
  refine Calm.one (i := 30) (l' := #[true, true, true, true, true, true, true, true, true, true, true, true, true, true, true, true, true, true, true, true, true, true, true, true, true, true, true, true, true, true, true, false, false, false, false, false, false, false, false, false, false, false, false, false, false, false, false]) (by kernel_rfl) rfl (by kernel_rfl) rfl fun K hK => ?_
  go_simp
  refine (kof_any ⟨#[49, 47, 50]⟩ q12 _ (by kernel_rfl) (by decide)).mono ?_
  rintro e y9 ⟨v, rfl, n, hb⟩
  have HF' := hide (And.intro (HF.out.1.trans ((hb).mono HF.out.1.size)) (And.intro (HF.out.2.1.step (hb)) (And.intro (HF.out.2.2.1.below (hb)) (And.intro (HF.out.2.2.2.1.step (hb)) (HF.out.2.2.2.2.below (hb))))))
  have T4 := hide (n)
  refine hK _ _ (fun _ => HF'.out) ?_
  clear hK K HF hb n
  have HF := hide HF'.out
  clear HF'
  refine Calm.one (i := 31) (l' := #[true, true, true, true, true, true, true, true, true, true, true, true, true, true, true, true, true, true, true, true, true, true, true, true, true, true, true, true, true, true, true, true, false, false, false, false, false, false, false, false, false, false, false, false, false, false, false]) (by kernel_rfl) rfl (by kernel_rfl) rfl fun K hK => ?_
  go_simp
  refine (rtmul_any _ _ 0 q12 _ HF.out.2.2.1 T4.out ((szr1 (by kernel_rfl) (by kernel_rfl)).mono (by decide)) ((szr1 (by kernel_rfl) (by kernel_rfl)).mono (by decide))).mono ?_
  rintro e z1 ⟨v, rfl, n, hb⟩
  clear T4
  have HF' := hide (And.intro (HF.out.1.trans ((hb).mono HF.out.1.size)) (And.intro (HF.out.2.1.step (hb)) (And.intro (HF.out.2.2.1.below (hb)) (And.intro (HF.out.2.2.2.1.step (hb)) (HF.out.2.2.2.2.below (hb))))))
  have T5 := hide (n)
  refine hK _ _ (fun _ => HF'.out) ?_
  clear hK K HF hb n
  have HF := hide HF'.out
  clear HF'
  refine Calm.one (i := 32) (l' := #[true, true, true, true, true, true, true, true, true, true, true, true, true, true, true, true, true, true, true, true, true, true, true, true, true, true, true, true, true, true, true, true, true, false, false, false, false, false, false, false, false, false, false, false, false, false, false]) (by kernel_rfl) rfl (by kernel_rfl) rfl fun K hK => ?_
  go_simp
  refine (ktxt_any _ (0 * q12) ⟨#[48]⟩ _ T5.out (szr1 (by kernel_rfl) (by kernel_rfl)) (by kernel_rfl)).mono ?_
  rintro e z2 ⟨rfl, hb⟩
  clear T5
  have HF' := hide (And.intro (HF.out.1.trans ((hb).mono HF.out.1.size)) (And.intro (HF.out.2.1.step (hb)) (And.intro (HF.out.2.2.1.below (hb)) (And.intro (HF.out.2.2.2.1.step (hb)) (HF.out.2.2.2.2.below (hb))))))
  refine hK _ _ (fun _ => HF'.out) ?_
  clear hK K HF hb
  have HF := hide HF'.out
  clear HF'
  refine Calm.takeL 47 (i := 33) (v := ?_) (a' := ?_) (l' := #[true, true, true, true, true, true, true, true, true, true, true, true, true, true, true, true, true, true, true, true, true, true, true, true, true, true, true, true, true, true, true, true, true, true, false, false, false, false, false, false, false, false, false, false, false, false, false]) (d := some 106) (by kernel_rfl) rfl (by kernel_rfl) (by kernel_rfl) (by kernel_rfl) (by kernel_rfl) (fun _ _ _ h => h) HF.out (by kernel_rfl) ?_ rfl rfl ?_ ?_
  rotate_left
  · intro w' hF; clear hF; go_simp; try rfl
  rotate_left
  · simp only [Act.put]; exact rfl
  refine Calm.takeL 47 (i := 34) (v := ?_) (a' := ?_) (l' := #[true, true, true, true, true, true, true, true, true, true, true, true, true, true, true, true, true, true, true, true, true, true, true, true, true, true, true, true, true, true, true, true, true, true, true, false, false, false, false, false, false, false, false, false, false, false, false]) (d := some 107) (by kernel_rfl) rfl (by kernel_rfl) (by kernel_rfl) (by kernel_rfl) (by kernel_rfl) (fun _ _ _ h => h) HF.out rfl ?_ rfl rfl ?_ ?_
  rotate_left
  · intro w' hF; clear hF; go_simp; try rfl
  rotate_left
  · simp only [Act.put]; exact rfl
  refine Calm.takeL 47 (i := 35) (v := ?_) (a' := ?_) (l' := #[true, true, true, true, true, true, true, true, true, true, true, true, true, true, true, true, true, true, true, true, true, true, true, true, true, true, true, true, true, true, true, true, true, true, true, true, false, false, false, false, false, false, false, false, false, false, false]) (d := some 108) (by kernel_rfl) rfl (by kernel_rfl) (by kernel_rfl) (by kernel_rfl) (by kernel_rfl) (fun _ _ _ h => h) HF.out rfl ?_ rfl rfl ?_ ?_
  rotate_left
  · intro w' hF; clear hF; go_simp; try rfl
  rotate_left
  · simp only [Act.put]; exact rfl
  refine Calm.takeL 47 (i := 36) (v := ?_) (a' := ?_) (l' := #[true, true, true, true, true, true, true, true, true, true, true, true, true, true, true, true, true, true, true, true, true, true, true, true, true, true, true, true, true, true, true, true, true, true, true, true, true, false, false, false, false, false, false, false, false, false, false]) (d := some 109) (by kernel_rfl) rfl (by kernel_rfl) (by kernel_rfl) (by kernel_rfl) (by kernel_rfl) (fun _ _ _ h => h) HF.out (by kernel_rfl) ?_ rfl rfl ?_ ?_
  rotate_left
  · intro w' hF; have f10 := hF.2.1.cell0; have f11 := hF.2.1.cell1; have f12 := hF.2.1.cell2; have f13 := hF.2.1.cell3; have f30 := hF.2.2.2.1.cell0; have f31 := hF.2.2.2.1.cell1; have f32 := hF.2.2.2.1.cell2; have f33 := hF.2.2.2.1.cell3; clear hF; go_simp; try rfl
  rotate_left
  · simp only [Act.put]; exact rfl
  refine Calm.takeL 47 (i := 37) (v := ?_) (a' := ?_) (l' := #[true, true, true, true, true, true, true, true, true, true, true, true, true, true, true, true, true, true, true, true, true, true, true, true, true, true, true, true, true, true, true, true, true, true, true, true, true, true, false, false, false, false, false, false, false, false, false]) (d := some 110) (by kernel_rfl) rfl (by kernel_rfl) (by kernel_rfl) (by kernel_rfl) (by kernel_rfl) (fun _ _ _ h => h) HF.out (by kernel_rfl) ?_ rfl rfl ?_ ?_
  rotate_left
  · intro w' hF; have f10 := hF.2.1.cell0; have f11 := hF.2.1.cell1; have f12 := hF.2.1.cell2; have f13 := hF.2.1.cell3; have f30 := hF.2.2.2.1.cell0; have f31 := hF.2.2.2.1.cell1; have f32 := hF.2.2.2.1.cell2; have f33 := hF.2.2.2.1.cell3; clear hF; go_simp; try rfl
  rotate_left
  · simp only [Act.put]; exact rfl
  refine Calm.one (i := 38) (l' := #[true, true, true, true, true, true, true, true, true, true, true, true, true, true, true, true, true, true, true, true, true, true, true, true, true, true, true, true, true, true, true, true, true, true, true, true, true, true, true, false, false, false, false, false, false, false, false]) (by kernel_rfl) rfl (by kernel_rfl) rfl fun K hK => ?_
  go_simp
  refine (kcmp_any _ _ 0 qz 0 _ HF.out.2.2.1 HF.out.2.2.2.2 (szr1 (by kernel_rfl) (by kernel_rfl)) (szr1 (by kernel_rfl) (by kernel_rfl)) (by kernel_rfl)).mono ?_
  rintro e z3 ⟨rfl, hb⟩
  have HF' := hide (And.intro (HF.out.1.trans ((hb).mono HF.out.1.size)) (And.intro (HF.out.2.1.step (hb)) (And.intro (HF.out.2.2.1.below (hb)) (And.intro (HF.out.2.2.2.1.step (hb)) (HF.out.2.2.2.2.below (hb))))))
  refine hK _ _ (fun _ => HF'.out) ?_
  clear hK K HF hb
  have HF := hide HF'.out
  clear HF'
  refine Calm.takeL 47 (i := 39) (v := ?_) (a' := ?_) (l' := #[true, true, true, true, true, true, true, true, true, true, true, true, true, true, true, true, true, true, true, true, true, true, true, true, true, true, true, true, true, true, true, true, true, true, true, true, true, true, true, true, false, false, false, false, false, false, false]) (d := some 112) (by kernel_rfl) rfl (by kernel_rfl) (by kernel_rfl) (by kernel_rfl) (by kernel_rfl) (fun _ _ _ h => h) HF.out (by kernel_rfl) ?_ rfl rfl ?_ ?_
  rotate_left
  · intro w' hF; clear hF; go_simp; try rfl
  rotate_left
  · simp only [Act.put]; exact rfl
  refine Calm.takeL 47 (i := 40) (v := ?_) (a' := ?_) (l' := #[true, true, true, true, true, true, true, true, true, true, true, true, true, true, true, true, true, true, true, true, true, true, true, true, true, true, true, true, true, true, true, true, true, true, true, true, true, true, true, true, true, false, false, false, false, false, false]) (d := some 113) (by kernel_rfl) rfl (by kernel_rfl) (by kernel_rfl) (by kernel_rfl) (by kernel_rfl) (fun _ _ _ h => h) HF.out rfl ?_ rfl rfl ?_ ?_
  rotate_left
  · intro w' hF; clear hF; go_simp; try rfl
  rotate_left
  · simp only [Act.put]; exact rfl
  refine Calm.takeL 47 (i := 41) (v := ?_) (a' := ?_) (l' := #[true, true, true, true, true, true, true, true, true, true, true, true, true, true, true, true, true, true, true, true, true, true, true, true, true, true, true, true, true, true, true, true, true, true, true, true, true, true, true, true, true, true, false, false, false, false, false]) (d := some 114) (by kernel_rfl) rfl (by kernel_rfl) (by kernel_rfl) (by kernel_rfl) (by kernel_rfl) (fun _ _ _ h => h) HF.out rfl ?_ rfl rfl ?_ ?_
  rotate_left
  · intro w' hF; clear hF; go_simp; try rfl
  rotate_left
  · simp only [Act.put]; exact rfl
  refine Calm.takeL 47 (i := 42) (v := ?_) (a' := ?_) (l' := #[true, true, true, true, true, true, true, true, true, true, true, true, true, true, true, true, true, true, true, true, true, true, true, true, true, true, true, true, true, true, true, true, true, true, true, true, true, true, true, true, true, true, true, false, false, false, false]) (d := some 115) (by kernel_rfl) rfl (by kernel_rfl) (by kernel_rfl) (by kernel_rfl) (by kernel_rfl) (fun _ _ _ h => h) HF.out (by kernel_rfl) ?_ rfl rfl ?_ ?_
  rotate_left
  · intro w' hF; have f10 := hF.2.1.cell0; have f11 := hF.2.1.cell1; have f12 := hF.2.1.cell2; have f13 := hF.2.1.cell3; have f30 := hF.2.2.2.1.cell0; have f31 := hF.2.2.2.1.cell1; have f32 := hF.2.2.2.1.cell2; have f33 := hF.2.2.2.1.cell3; clear hF; go_simp; try rfl
  rotate_left
  · simp only [Act.put]; exact rfl
  refine Calm.one (i := 43) (l' := #[true, true, true, true, true, true, true, true, true, true, true, true, true, true, true, true, true, true, true, true, true, true, true, true, true, true, true, true, true, true, true, true, true, true, true, true, true, true, true, true, true, true, true, true, false, false, false]) (by kernel_rfl) rfl (by kernel_rfl) rfl fun K hK => ?_
  go_simp
  refine (rtneg_any _ 0 _ HF.out.2.2.1).mono ?_
  rintro e z4 ⟨v, rfl, n, hb⟩
  have HF' := hide (And.intro (HF.out.1.trans ((hb).mono HF.out.1.size)) (And.intro (HF.out.2.1.step (hb)) (And.intro (HF.out.2.2.1.below (hb)) (And.intro (HF.out.2.2.2.1.step (hb)) (HF.out.2.2.2.2.below (hb))))))
  have T6 := hide (n)
  refine hK _ _ (fun _ => HF'.out) ?_
  clear hK K HF hb n
  have HF := hide HF'.out
  clear HF'
  refine Calm.one (i := 44) (l' := #[true, true, true, true, true, true, true, true, true, true, true, true, true, true, true, true, true, true, true, true, true, true, true, true, true, true, true, true, true, true, true, true, true, true, true, true, true, true, true, true, true, true, true, true, true, false, false]) (by kernel_rfl) rfl (by kernel_rfl) rfl fun K hK => ?_
  go_simp
  refine (ktxt_any _ (-0) ⟨#[48]⟩ _ T6.out (szr1 (by kernel_rfl) (by kernel_rfl)) (by kernel_rfl)).mono ?_
  rintro e z5 ⟨rfl, hb⟩
  clear T6
  have HF' := hide (And.intro (HF.out.1.trans ((hb).mono HF.out.1.size)) (And.intro (HF.out.2.1.step (hb)) (And.intro (HF.out.2.2.1.below (hb)) (And.intro (HF.out.2.2.2.1.step (hb)) (HF.out.2.2.2.2.below (hb))))))
  refine hK _ _ (fun _ => HF'.out) ?_
  clear hK K HF hb
  have HF := hide HF'.out
  clear HF'
  refine Calm.takeL 47 (i := 45) (v := ?_) (a' := ?_) (l' := #[true, true, true, true, true, true, true, true, true, true, true, true, true, true, true, true, true, true, true, true, true, true, true, true, true, true, true, true, true, true, true, true, true, true, true, true, true, true, true, true, true, true, true, true, true, true, false]) (d := some 118) (by kernel_rfl) rfl (by kernel_rfl) (by kernel_rfl) (by kernel_rfl) (by kernel_rfl) (fun _ _ _ h => h) HF.out (by kernel_rfl) ?_ rfl rfl ?_ ?_
  rotate_left
  · intro w' hF; clear hF; go_simp; try rfl
  rotate_left
  · simp only [Act.put]; exact rfl
  refine Calm.takeL 47 (i := 46) (v := ?_) (a' := ?_) (l' := #[true, true, true, true, true, true, true, true, true, true, true, true, true, true, true, true, true, true, true, true, true, true, true, true, true, true, true, true, true, true, true, true, true, true, true, true, true, true, true, true, true, true, true, true, true, true, true]) (d := some 119) (by kernel_rfl) rfl (by kernel_rfl) (by kernel_rfl) (by kernel_rfl) (by kernel_rfl) (fun _ _ _ h => h) HF.out rfl ?_ rfl rfl ?_ ?_
  rotate_left
  · intro w' hF; clear hF; go_simp; try rfl
  rotate_left
  · simp only [Act.put]; exact rfl
  refine Calm.done (by kernel_rfl) ?_
  replace HB := hide HF.out.1
  clear HF VN IN V4 I4
  try simp only [List.setIfInBounds_toArray, List.set_cons_succ, List.set_cons_zero]
  go_wp2_with fail
  refine (kof_any ⟨#[49, 47, 50]⟩ q12 _ (by kernel_rfl) (by decide)).mono ?_
  rintro e u16 ⟨vu16, rfl, n, hb⟩
  replace HB := hide (HB.out.trans ((hb).mono HB.out.size))
  have T1 := hide n
  clear n hb
  go_wp2_with fail
  refine (kof_any ⟨#[49, 47, 51]⟩ q13 _ (by kernel_rfl) (by decide)).mono ?_
  rintro e u17 ⟨vu17, rfl, n, hb⟩
  replace HB := hide (HB.out.trans ((hb).mono HB.out.size))
  replace T1 := hide (T1.out.below (hb))
  have T2 := hide n
  clear n hb
  go_wp2_with fail
  refine (rtadd_any _ _ q12 q13 _ T1.out T2.out ((szr1 (by kernel_rfl) (by kernel_rfl)).mono (by decide)) ((szr1 (by kernel_rfl) (by kernel_rfl)).mono (by decide))).mono ?_
  rintro e u18 ⟨vu18, rfl, n, hb⟩
  replace HB := hide (HB.out.trans ((hb).mono HB.out.size))
  replace T1 := hide (T1.out.below (hb))
  replace T2 := hide (T2.out.below (hb))
  have T3 := hide n
  clear n hb
  clear T1
  clear T2
  go_wp2_with fail
  refine (ktxt_any _ (q12 + q13) ⟨#[53, 47, 54]⟩ _ T3.out (szr1 (by kernel_rfl) (by kernel_rfl)) (by kernel_rfl)).mono ?_
  rintro e u19 ⟨rfl, hb⟩
  replace HB := hide (HB.out.trans ((hb).mono HB.out.size))
  replace T3 := hide (T3.out.below (hb))
  clear hb
  clear T3
  go_wp2_with fail
  refine (kof_any ⟨#[49, 47, 50]⟩ q12 _ (by kernel_rfl) (by decide)).mono ?_
  rintro e u20 ⟨vu20, rfl, n, hb⟩
  replace HB := hide (HB.out.trans ((hb).mono HB.out.size))
  have T1 := hide n
  clear n hb
  go_wp2_with fail
  refine (kof_any ⟨#[49, 47, 51]⟩ q13 _ (by kernel_rfl) (by decide)).mono ?_
  rintro e u21 ⟨vu21, rfl, n, hb⟩
  replace HB := hide (HB.out.trans ((hb).mono HB.out.size))
  replace T1 := hide (T1.out.below (hb))
  have T2 := hide n
  clear n hb
  go_wp2_with fail
  refine (rtsub_any _ _ q12 q13 _ T1.out T2.out ((szr1 (by kernel_rfl) (by kernel_rfl)).mono (by decide)) ((szr1 (by kernel_rfl) (by kernel_rfl)).mono (by decide))).mono ?_
  rintro e u22 ⟨vu22, rfl, n, hb⟩
  replace HB := hide (HB.out.trans ((hb).mono HB.out.size))
  replace T1 := hide (T1.out.below (hb))
  replace T2 := hide (T2.out.below (hb))
  have T3 := hide n
  clear n hb
  clear T1
  clear T2
  go_wp2_with fail
  refine (ktxt_any _ (q12 - q13) ⟨#[49, 47, 54]⟩ _ T3.out (szr1 (by kernel_rfl) (by kernel_rfl)) (by kernel_rfl)).mono ?_
  rintro e u23 ⟨rfl, hb⟩
  replace HB := hide (HB.out.trans ((hb).mono HB.out.size))
  replace T3 := hide (T3.out.below (hb))
  clear hb
  clear T3
  go_wp2_with fail
  refine (kof_any ⟨#[49, 47, 50]⟩ q12 _ (by kernel_rfl) (by decide)).mono ?_
  rintro e u24 ⟨vu24, rfl, n, hb⟩
  replace HB := hide (HB.out.trans ((hb).mono HB.out.size))
  have T1 := hide n
  clear n hb
  go_wp2_with fail
  refine (kof_any ⟨#[49, 47, 51]⟩ q13 _ (by kernel_rfl) (by decide)).mono ?_
  rintro e u25 ⟨vu25, rfl, n, hb⟩
  replace HB := hide (HB.out.trans ((hb).mono HB.out.size))
  replace T1 := hide (T1.out.below (hb))
  have T2 := hide n
  clear n hb
  go_wp2_with fail
  refine (rtmul_any _ _ q12 q13 _ T1.out T2.out ((szr1 (by kernel_rfl) (by kernel_rfl)).mono (by decide)) ((szr1 (by kernel_rfl) (by kernel_rfl)).mono (by decide))).mono ?_
  rintro e u26 ⟨vu26, rfl, n, hb⟩
  replace HB := hide (HB.out.trans ((hb).mono HB.out.size))
  replace T1 := hide (T1.out.below (hb))
  replace T2 := hide (T2.out.below (hb))
  have T3 := hide n
  clear n hb
  clear T1
  clear T2
  go_wp2_with fail
  refine (ktxt_any _ (q12 * q13) ⟨#[49, 47, 54]⟩ _ T3.out (szr1 (by kernel_rfl) (by kernel_rfl)) (by kernel_rfl)).mono ?_
  rintro e u27 ⟨rfl, hb⟩
  replace HB := hide (HB.out.trans ((hb).mono HB.out.size))
  replace T3 := hide (T3.out.below (hb))
  clear hb
  clear T3
  go_wp2_with fail
  refine (kof_any ⟨#[49, 47, 50]⟩ q12 _ (by kernel_rfl) (by decide)).mono ?_
  rintro e u28 ⟨vu28, rfl, n, hb⟩
  replace HB := hide (HB.out.trans ((hb).mono HB.out.size))
  have T1 := hide n
  clear n hb
  go_wp2_with fail
  refine (kof_any ⟨#[49, 47, 51]⟩ q13 _ (by kernel_rfl) (by decide)).mono ?_
  rintro e u29 ⟨vu29, rfl, n, hb⟩
  replace HB := hide (HB.out.trans ((hb).mono HB.out.size))
  replace T1 := hide (T1.out.below (hb))
  have T2 := hide n
  clear n hb
  go_wp2_with fail
  refine (kcmp_any _ _ q12 q13 1 _ T1.out T2.out (szr1 (by kernel_rfl) (by kernel_rfl)) (szr1 (by kernel_rfl) (by kernel_rfl)) (by kernel_rfl)).mono ?_
  rintro e u30 ⟨rfl, hb⟩
  replace HB := hide (HB.out.trans ((hb).mono HB.out.size))
  replace T1 := hide (T1.out.below (hb))
  replace T2 := hide (T2.out.below (hb))
  clear hb
  clear T1
  clear T2
  go_wp2_with fail
  refine (kof_any ⟨#[49, 47, 50]⟩ q12 _ (by kernel_rfl) (by decide)).mono ?_
  rintro e u31 ⟨vu31, rfl, n, hb⟩
  replace HB := hide (HB.out.trans ((hb).mono HB.out.size))
  obtain ⟨s1, m1, n1, c1, t1, o1, p1, d1, rfl, n⟩ := n.cells
  have T1 := hide n
  clear n hb
  go_wp2_with fail
  refine (kof_any ⟨#[45, 50, 47, 51]⟩ q23 _ (by kernel_rfl) (by decide)).mono ?_
  rintro e u32 ⟨vu32, rfl, n, hb⟩
  replace HB := hide (HB.out.trans ((hb).mono HB.out.size))
  replace T1 := hide (T1.out.below (hb))
  obtain ⟨s2, m2, n2, c2, t2, o2, p2, d2, rfl, n⟩ := n.cells
  have T2 := hide n
  clear n hb
  go_wp2_with fail
  refine (kof_any ⟨#[52]⟩ q4 _ (by kernel_rfl) (by decide)).mono ?_
  rintro e u33 ⟨vu33, rfl, n, hb⟩
  replace HB := hide (HB.out.trans ((hb).mono HB.out.size))
  replace T1 := hide (T1.out.below (hb))
  replace T2 := hide (T2.out.below (hb))
  obtain ⟨s3, m3, n3, c3, t3, o3, p3, d3, rfl, n⟩ := n.cells
  have T3 := hide n
  clear n hb
  go_wp2_with fail
  have RL := hide (ratL3 T1.out T2.out T3.out)
  have al := below_alloc u33 (.cells #[.bool s1, .slice m1 n1 c1, .bool t1, .slice o1 p1 d1, .bool s2, .slice m2 n2 c2, .bool t2, .slice o2 p2 d2, .bool s3, .slice m3 n3 c3, .bool t3, .slice o3 p3 d3] 27)
  replace HB := hide (HB.out.trans ((al).mono HB.out.size))
  replace T1 := hide (T1.out.below (al))
  replace T2 := hide (T2.out.below (al))
  replace T3 := hide (T3.out.below (al))
  refine (rtcom_any _ [q12, q23, q4] _ RL.out (allsz3 (szr1 (by kernel_rfl) (by kernel_rfl)) (szr1 (by kernel_rfl) (by kernel_rfl)) (szr1 (by kernel_rfl) (by kernel_rfl)))).mono ?_
  rintro e u34 ⟨v1, v2, rfl, hi, kx, hb⟩
  replace HB := hide (HB.out.trans ((hb).mono HB.out.size))
  replace T1 := hide (T1.out.below (hb))
  replace T2 := hide (T2.out.below (hb))
  replace T3 := hide (T3.out.below (hb))
  clear al RL
  clear T1
  clear T2
  clear T3
  obtain ⟨s5, m5, n5, c5, rfl, kx⟩ := kx.cells
  rw [show comQ [q12, q23, q4] = [3, -4, 24] from by kernel_rfl] at hi
  rw [show lcmQ [q12, q23, q4] = 6 from by kernel_rfl] at kx
  obtain ⟨la, lc, hv⟩ : ∃ a c, v1 = .slice a 3 c := by obtain ⟨a, c, e, _⟩ := hi; exact ⟨a, c, e⟩
  subst hv
  have J1 := hide hi
  have I5 := hide kx
  clear hi kx hb
  go_upto_region 16 with fail
  have al := below_alloc u34 (.cells #[.bool s5, .slice m5 n5 c5] 25)
  replace HB := hide (HB.out.trans ((al).mono HB.out.size))
  replace J1 := hide (J1.out.below (al))
  replace I5 := hide (I5.out.below (al))
  have V12 := hide (Box.new u34 (.bool s5) (.slice m5 n5 c5))
  clear al
  generalize u34.alloc (.cells #[.bool s5, .slice m5 n5 c5] 25) = u34a at *
  generalize u34.heap.size = g12 at *
  go_wp2_with fail
  refine (rtcom_any _ [] _ (ratL0 _) allsz0).mono ?_
  rintro e u35 ⟨v1, v2, rfl, hi, kx, hb⟩
  replace HB := hide (HB.out.trans ((hb).mono HB.out.size))
  replace J1 := hide (J1.out.below (hb))
  replace I5 := hide (I5.out.below (hb))
  replace V12 := hide (V12.out.step (hb))
  obtain ⟨s6, m6, n6, c6, rfl, kx⟩ := kx.cells
  rw [show lcmQ [] = 1 from by kernel_rfl] at kx
  obtain ⟨lb, ld, hv⟩ : ∃ a c, v1 = .slice a 0 c := by obtain ⟨a, c, e, _⟩ := hi; exact ⟨a, c, e⟩
  subst hv
  have I6 := hide kx
  clear hi kx hb
  go_upto_region 17 with fail
  have al := below_alloc u35 (.cells #[.bool s6, .slice m6 n6 c6] 25)
  replace HB := hide (HB.out.trans ((al).mono HB.out.size))
  replace J1 := hide (J1.out.below (al))
  replace I5 := hide (I5.out.below (al))
  replace V12 := hide (V12.out.step (al))
  replace I6 := hide (I6.out.below (al))
  have V14 := hide (Box.new u35 (.bool s6) (.slice m6 n6 c6))
  clear al
  generalize u35.alloc (.cells #[.bool s6, .slice m6 n6 c6] 25) = u35a at *
  generalize u35.heap.size = g14 at *
  obtain ⟨b, off, rfl, s0, m0, n0, c0, s1, m1, n1, c1, s2, m2, n2, c2, x0, y0, x1, y1, x2, y2, i0, i1, i2⟩ := ints3 J1.out
  have K0 := hide i0
  have K1 := hide i1
  have K2 := hide i2
  have CC := hide (And.intro x0 (And.intro y0 (And.intro x1 (And.intro y1 (And.intro x2 y2)))))
  have WB := hide (Below.refl u35a.heap.size u35a)
  clear i0 i1 i2 x1 y1 x2 y2 J1
  go_wp2_with fail
  clear x0 y0
  refine (kitx_any _ 3 ⟨#[51]⟩ _ K0.out (by kernel_rfl) (by kernel_rfl)).mono ?_
  rintro e u36 ⟨rfl, hb⟩
  replace HB := hide (HB.out.trans ((hb).mono HB.out.size))
  replace I5 := hide (I5.out.below (hb))
  replace V12 := hide (V12.out.step (hb))
  replace I6 := hide (I6.out.below (hb))
  replace V14 := hide (V14.out.step (hb))
  replace K0 := hide (K0.out.below (hb))
  replace K1 := hide (K1.out.below (hb))
  replace K2 := hide (K2.out.below (hb))
  replace WB := hide (WB.out.trans ((hb).mono WB.out.size))
  clear hb
  have xe := (WB.out.cell (World.block_lt_of_cell? u35a _ CC.out.2.2.1)).trans CC.out.2.2.1
  have ye := (WB.out.cell (World.block_lt_of_cell? u35a _ CC.out.2.2.2.1)).trans CC.out.2.2.2.1
  go_wp2_with fail
  clear xe ye
  refine (kitx_any _ (-4) ⟨#[45, 52]⟩ _ K1.out (by kernel_rfl) (by kernel_rfl)).mono ?_
  rintro e u37 ⟨rfl, hb⟩
  replace HB := hide (HB.out.trans ((hb).mono HB.out.size))
  replace I5 := hide (I5.out.below (hb))
  replace V12 := hide (V12.out.step (hb))
  replace I6 := hide (I6.out.below (hb))
  replace V14 := hide (V14.out.step (hb))
  replace K0 := hide (K0.out.below (hb))
  replace K1 := hide (K1.out.below (hb))
  replace K2 := hide (K2.out.below (hb))
  replace WB := hide (WB.out.trans ((hb).mono WB.out.size))
  clear hb
  have xe := (WB.out.cell (World.block_lt_of_cell? u35a _ CC.out.2.2.2.2.1)).trans CC.out.2.2.2.2.1
  have ye := (WB.out.cell (World.block_lt_of_cell? u35a _ CC.out.2.2.2.2.2)).trans CC.out.2.2.2.2.2
  go_wp2_with fail
  clear xe ye
  refine (kitx_any _ 24 ⟨#[50, 52]⟩ _ K2.out (by kernel_rfl) (by kernel_rfl)).mono ?_
  rintro e u38 ⟨rfl, hb⟩
  replace HB := hide (HB.out.trans ((hb).mono HB.out.size))
  replace I5 := hide (I5.out.below (hb))
  replace V12 := hide (V12.out.step (hb))
  replace I6 := hide (I6.out.below (hb))
  replace V14 := hide (V14.out.step (hb))
  replace K0 := hide (K0.out.below (hb))
  replace K1 := hide (K1.out.below (hb))
  replace K2 := hide (K2.out.below (hb))
  replace WB := hide (WB.out.trans ((hb).mono WB.out.size))
  clear hb
  clear K0
  clear K1
  clear K2
  clear WB
  clear CC
  have hV120 := V12.out.cell0
  have hV121 := V12.out.cell1
  go_wp2_with fail
  clear hV120 hV121
  refine (kitx_any _ 6 ⟨#[54]⟩ _ I5.out (by kernel_rfl) (by kernel_rfl)).mono ?_
  rintro e u39 ⟨rfl, hb⟩
  replace HB := hide (HB.out.trans ((hb).mono HB.out.size))
  replace I5 := hide (I5.out.below (hb))
  replace V12 := hide (V12.out.step (hb))
  replace I6 := hide (I6.out.below (hb))
  replace V14 := hide (V14.out.step (hb))
  clear hb
  have hV140 := V14.out.cell0
  have hV141 := V14.out.cell1
  go_wp2_with fail
  clear hV140 hV141
  refine (kitx_any _ 1 ⟨#[49]⟩ _ I6.out (by kernel_rfl) (by kernel_rfl)).mono ?_
  rintro e u40 ⟨rfl, hb⟩
  replace HB := hide (HB.out.trans ((hb).mono HB.out.size))
  replace I5 := hide (I5.out.below (hb))
  replace V12 := hide (V12.out.step (hb))
  replace I6 := hide (I6.out.below (hb))
  replace V14 := hide (V14.out.step (hb))
  clear hb
  clear V12
  clear I5
  clear V14
  clear I6
  go_wp2_with fail
  refine (kof_any ⟨#[49, 47, 50]⟩ q12 _ (by kernel_rfl) (by decide)).mono ?_
  rintro e u41 ⟨vu41, rfl, n, hb⟩
  replace HB := hide (HB.out.trans ((hb).mono HB.out.size))
  obtain ⟨s1, m1, n1, c1, t1, o1, p1, d1, rfl, n⟩ := n.cells
  have T1 := hide n
  clear n hb
  go_wp2_with fail
  refine (kof_any ⟨#[49, 47, 51]⟩ q13 _ (by kernel_rfl) (by decide)).mono ?_
  rintro e u42 ⟨vu42, rfl, n, hb⟩
  replace HB := hide (HB.out.trans ((hb).mono HB.out.size))
  replace T1 := hide (T1.out.below (hb))
  obtain ⟨s2, m2, n2, c2, t2, o2, p2, d2, rfl, n⟩ := n.cells
  have T2 := hide n
  clear n hb
  go_wp2_with fail
  refine (kof_any ⟨#[49, 47, 54]⟩ q16 _ (by kernel_rfl) (by decide)).mono ?_
  rintro e u43 ⟨vu43, rfl, n, hb⟩
  replace HB := hide (HB.out.trans ((hb).mono HB.out.size))
  replace T1 := hide (T1.out.below (hb))
  replace T2 := hide (T2.out.below (hb))
  obtain ⟨s3, m3, n3, c3, t3, o3, p3, d3, rfl, n⟩ := n.cells
  have T3 := hide n
  clear n hb
  go_wp2_with fail
  have RL := hide (ratL3 T1.out T2.out T3.out)
  have al := below_alloc u43 (.cells #[.bool s1, .slice m1 n1 c1, .bool t1, .slice o1 p1 d1, .bool s2, .slice m2 n2 c2, .bool t2, .slice o2 p2 d2, .bool s3, .slice m3 n3 c3, .bool t3, .slice o3 p3 d3] 27)
  replace HB := hide (HB.out.trans ((al).mono HB.out.size))
  replace T1 := hide (T1.out.below (al))
  replace T2 := hide (T2.out.below (al))
  replace T3 := hide (T3.out.below (al))
  refine (rtsum_any _ [q12, q13, q16] _ RL.out (allsz3 (szr1 (by kernel_rfl) (by kernel_rfl)) (szr1 (by kernel_rfl) (by kernel_rfl)) (szr1 (by kernel_rfl) (by kernel_rfl)))).mono ?_
  rintro e u44 ⟨v1, rfl, kx, hb⟩
  replace HB := hide (HB.out.trans ((hb).mono HB.out.size))
  replace T1 := hide (T1.out.below (hb))
  replace T2 := hide (T2.out.below (hb))
  replace T3 := hide (T3.out.below (hb))
  clear al RL
  clear T1
  clear T2
  clear T3
  have T4 := hide kx
  clear kx hb
  go_wp2_with fail
  refine (ktxt_any _ (sumQ [q12, q13, q16]) ⟨#[49]⟩ _ T4.out (szr1 (by kernel_rfl) (by kernel_rfl)) (by kernel_rfl)).mono ?_
  rintro e u45 ⟨rfl, hb⟩
  replace HB := hide (HB.out.trans ((hb).mono HB.out.size))
  replace T4 := hide (T4.out.below (hb))
  clear hb
  clear T4
  go_wp2_with fail
  refine (rtsum_any _ [] _ (ratL0 _) allsz0).mono ?_
  rintro e u46 ⟨vu46, rfl, n, hb⟩
  replace HB := hide (HB.out.trans ((hb).mono HB.out.size))
  have T4 := hide n
  clear n hb
  go_wp2_with fail
  refine (ktxt_any _ (sumQ []) ⟨#[48]⟩ _ T4.out (szr1 (by kernel_rfl) (by kernel_rfl)) (by kernel_rfl)).mono ?_
  rintro e u47 ⟨rfl, hb⟩
  replace HB := hide (HB.out.trans ((hb).mono HB.out.size))
  replace T4 := hide (T4.out.below (hb))
  clear hb
  clear T4
  go_wp2
  have BD := hide (BadL.new u47)
  have al := below_alloc u47 (.cells #[.string ⟨#[52, 47, 54]⟩, .int .i64 3, .string ⟨#[51, 47, 49]⟩, .int .i64 3, .string ⟨#[48, 47, 53]⟩, .int .i64 3, .string ⟨#[]⟩, .int .i64 0, .string ⟨#[45]⟩, .int .i64 1, .string ⟨#[49, 47]⟩, .int .i64 2, .string ⟨#[49, 47, 45, 50]⟩, .int .i64 2, .string ⟨#[49, 47, 48, 50]⟩, .int .i64 2, .string ⟨#[45, 48]⟩, .int .i64 1, .string ⟨#[48, 49]⟩, .int .i64 1, .string ⟨#[49, 47, 50, 120]⟩, .int .i64 3] 48)
  replace HB := hide (HB.out.trans ((al).mono HB.out.size))
  clear al
  generalize u47.alloc (.cells #[.string ⟨#[52, 47, 54]⟩, .int .i64 3, .string ⟨#[51, 47, 49]⟩, .int .i64 3, .string ⟨#[48, 47, 53]⟩, .int .i64 3, .string ⟨#[]⟩, .int .i64 0, .string ⟨#[45]⟩, .int .i64 1, .string ⟨#[49, 47]⟩, .int .i64 2, .string ⟨#[49, 47, 45, 50]⟩, .int .i64 2, .string ⟨#[49, 47, 48, 50]⟩, .int .i64 2, .string ⟨#[45, 48]⟩, .int .i64 1, .string ⟨#[48, 49]⟩, .int .i64 1, .string ⟨#[49, 47, 50, 120]⟩, .int .i64 3] 48) = wb at *
  generalize u47.heap.size = gb at *
  go_loopw [16, 17, 18, 237] (fun _ _ _ iv wr => ∃ j : Nat, j ≤ 11 ∧ iv = .int .i64 j ∧ Below wb.heap.size wb wr) (fun _ _ _ iv _ => 11 - (intOf iv).toNat)
  case atStart => exact ⟨0, Nat.zero_le _, rfl, Below.refl _ _⟩
  case round =>
    obtain ⟨j, hj, rfl, hb⟩ := hrel
    have HB2 := hide hb
    obtain ⟨hq, hq2⟩ : True ∧ True := ⟨trivial, trivial⟩
    clear hq hq2
    by_cases hlt : j < 11
    · obtain ⟨c1, c2⟩ := (BD.out.below hb) j hlt
      obtain ⟨hr1, hz1⟩ := bad_at j hlt
      have BA := hide hr1
      have BZ := hide hz1
      generalize (bdT j).1 = s at c1 BA BZ
      generalize (bdT j).2 = t at c2 BA
      clear hb hr1 hz1
      have hltI : (j : Int) < 11 := by omega
      go_upto_region 22 with fail
      clear c1 c2
      have al := below_alloc wr (.cells #[.string s, .int .i64 (t : Nat)] 48)
      replace HB2 := hide (HB2.out.trans ((al).mono HB2.out.size))
      have V1 := hide (BoxB.new wr (.string s) (.int .i64 (t : Nat)))
      clear al
      generalize wr.alloc (.cells #[.string s, .int .i64 (t : Nat)] 48) = wra at *
      generalize wr.heap.size = g1 at *
      have hV10 := V1.out.cell0
      have hV11 := V1.out.cell1
      go_wp2_with fail
      clear hV10 hV11
      refine (rread_rat s _ (by have := BZ.out; omega)).mono ?_
      rintro e x1 ⟨⟨v, q', p, b, rfl, kx, hr⟩, hb⟩
      obtain ⟨rfl, rfl, rfl⟩ := BA.out.same hr
      obtain ⟨s1, m1, n1, c1, t1, o1, p1, d1, rfl, ky⟩ := kx.cells
      replace HB2 := hide (HB2.out.trans ((hb).mono HB2.out.size))
      replace V1 := hide (V1.out.step (hb))
      have I1 := hide (ky)
      clear hb kx ky hr
      go_upto_region 23 with fail
      have V2 := Box4.new x1 (.bool s1) (.slice m1 n1 c1) (.bool t1) (.slice o1 p1 d1)
      replace V2 := V2.step (below_alloc _ (.cells #[.int .i64 ((6 : Nat) : Int), .int .i64 (t : Nat)] 30))
      replace V2 := hide V2
      have V3 := BoxS.new (x1.alloc (.cells #[.bool s1, .slice m1 n1 c1, .bool t1, .slice o1 p1 d1] 27)) (.int .i64 ((6 : Nat) : Int)) (.int .i64 (t : Nat))
      simp only [World.size_alloc] at V3
      replace V3 := hide V3
      have al := below_alloc x1 (.cells #[.bool s1, .slice m1 n1 c1, .bool t1, .slice o1 p1 d1] 27)
      replace al := al.trans ((below_alloc _ (.cells #[.int .i64 ((6 : Nat) : Int), .int .i64 (t : Nat)] 30)).mono (by simp only [World.size_alloc]; omega))
      replace HB2 := hide (HB2.out.trans ((al).mono HB2.out.size))
      replace V1 := hide (V1.out.step (al))
      replace I1 := hide (I1.out.below (al))
      clear al
      generalize ((x1.alloc (.cells #[.bool s1, .slice m1 n1 c1, .bool t1, .slice o1 p1 d1] 27)).alloc (.cells #[.int .i64 ((6 : Nat) : Int), .int .i64 (t : Nat)] 30)) = x1a at *
      generalize x1.heap.size = g2 at *
      have hV20 := V2.out.cell0
      have hV21 := V2.out.cell1
      have hV22 := V2.out.cell2
      have hV23 := V2.out.cell3
      go_wp2_with fail
      clear hV20 hV21 hV22 hV23
      refine (ktxt_any _ 0 ⟨#[48]⟩ _ I1.out (szr1 (by kernel_rfl) (by kernel_rfl)) (by kernel_rfl)).mono ?_
      rintro e x2 ⟨rfl, hb⟩
      replace HB2 := hide (HB2.out.trans ((hb).mono HB2.out.size))
      replace V1 := hide (V1.out.step (hb))
      replace I1 := hide (I1.out.below (hb))
      replace V2 := hide (V2.out.step (hb))
      replace V3 := hide (V3.out.step (hb))
      clear hb
      have hV10 := V1.out.cell0
      have hV11 := V1.out.cell1
      have hV30 := V3.out.cell0
      have hV31 := V3.out.cell1
      go_wp2
      go_roundw
      case rel => exact ⟨j + 1, by omega, by go_num, HB2.out⟩
      case measure => simp [intOf]; omega
    · have e : j = 11 := by omega
      subst e
      replace HB := hide (HB.out.trans (HB2.out.mono HB.out.size))
      clear HB2 hb
      go_wp2_with fail
      refine (kof_any ⟨#[45, 51, 47, 50]⟩ q32 _ (by kernel_rfl) (by decide)).mono ?_
      rintro e u48 ⟨vu48, rfl, n, hb⟩
      replace HB := hide (HB.out.trans ((hb).mono HB.out.size))
      have T1 := hide n
      clear n hb
      go_wp2_with fail
      refine (ktxt_any _ q32 ⟨#[45, 51, 47, 50]⟩ _ T1.out (szr1 (by kernel_rfl) (by kernel_rfl)) (by kernel_rfl)).mono ?_
      rintro e u49 ⟨rfl, hb⟩
      replace HB := hide (HB.out.trans ((hb).mono HB.out.size))
      replace T1 := hide (T1.out.below (hb))
      clear hb
      clear T1
      go_wp2_with fail
      refine (kof_any ⟨#[52]⟩ q4 _ (by kernel_rfl) (by decide)).mono ?_
      rintro e u50 ⟨vu50, rfl, n, hb⟩
      replace HB := hide (HB.out.trans ((hb).mono HB.out.size))
      have T1 := hide n
      clear n hb
      go_wp2_with fail
      refine (ktxt_any _ q4 ⟨#[52]⟩ _ T1.out (szr1 (by kernel_rfl) (by kernel_rfl)) (by kernel_rfl)).mono ?_
      rintro e u51 ⟨rfl, hb⟩
      replace HB := hide (HB.out.trans ((hb).mono HB.out.size))
      replace T1 := hide (T1.out.below (hb))
      clear hb
      clear T1
      go_wp2
      go_ret
      exact ⟨rfl, HB.out⟩
end Go.Proofs.Ytgkibmigbjjnnaa
