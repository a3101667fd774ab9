/- ratio.made, lowest, Make; Rat.Neg. -/
import Derived.Test.YtgkibmigbjjnnaaRt
import Derived.Deep.Cut
namespace Go.Proofs.Ytgkibmigbjjnnaa
open Go.RowKit

theorem rat_whole {q : Rat} (h : q.den = 1) : (q.num : Rat) = q := Rat.ext rfl (by rw [h]; rfl)
theorem cmp_den1 {q : Rat} (h : q.den = 1) : cmpZ (q.den : Int) 1 = 0 := by unfold cmpZ; rw [h]; rfl
theorem cmp_den2 {q : Rat} (h : ¬ q.den = 1) : cmpZ (q.den : Int) 1 = 1 := by have := q.den_nz; unfold cmpZ; rw [if_neg (by omega), if_neg (by omega)]

set_option maxRecDepth 100000 in
set_option maxHeartbeats 4000000 in
theorem rmade_any (v1 v2 : Value) (q : Rat) (w : World) (h1 : IntAt w v1 q.num) (h2 : IntAt w v2 (q.den : Int)) :
    Calls Try.prog 45 #[v1, v2] w fun e w' => ∃ v', e = .returned v' ∧ RatAt w' v' q ∧ Below w.heap.size w w' := by
  obtain ⟨s1, m1, n1, c1, rfl, i1⟩ := h1.cells
  have I1 := hide i1
  clear h1 i1
  obtain ⟨s2, m2, n2, c2, rfl, i2⟩ := h2.cells
  have I2 := hide i2
  clear h2 i2
  have P0 := Box.new w (.bool s1) (.slice m1 n1 c1)
  replace P0 := P0.step (below_alloc _ (.cells #[.bool s2, .slice m2 n2 c2] 25))
  replace P0 := P0.step (below_alloc _ (.cells #[.bool false, .slice none 0 0, .bool false, .slice none 0 0] 27))
  replace P0 := hide P0
  have P1 := Box.new (w.alloc (.cells #[.bool s1, .slice m1 n1 c1] 25)) (.bool s2) (.slice m2 n2 c2)
  simp only [World.size_alloc] at P1
  replace P1 := P1.step (below_alloc _ (.cells #[.bool false, .slice none 0 0, .bool false, .slice none 0 0] 27))
  replace P1 := hide P1
  have P2 := Box4.new ((w.alloc (.cells #[.bool s1, .slice m1 n1 c1] 25)).alloc (.cells #[.bool s2, .slice m2 n2 c2] 25)) (.bool false) (.slice none 0 0) (.bool false) (.slice none 0 0)
  simp only [World.size_alloc] at P2
  replace P2 := hide P2
  have HB := below_alloc w (.cells #[.bool s1, .slice m1 n1 c1] 25)
  replace HB := HB.trans ((below_alloc _ (.cells #[.bool s2, .slice m2 n2 c2] 25)).mono (by simp only [World.size_alloc]; omega))
  replace HB := HB.trans ((below_alloc _ (.cells #[.bool false, .slice none 0 0, .bool false, .slice none 0 0] 27)).mono (by simp only [World.size_alloc]; omega))
  replace I1 := hide (I1.out.below HB)
  replace I2 := hide (I2.out.below HB)
  replace HB := hide HB
  go_enter Try.func45, Try.ntmps45
  go_wp2_with fail
  generalize (((w.alloc (.cells #[.bool s1, .slice m1 n1 c1] 25)).alloc (.cells #[.bool s2, .slice m2 n2 c2] 25)).alloc (.cells #[.bool false, .slice none 0 0, .bool false, .slice none 0 0] 27)) = w0 at *
  by_cases hd : q.den = 1
  · have C1 := hide (cmp_den1 hd)
    have HD := hide hd
    clear hd
    refine wp_calm (fun w' => Below w.heap.size w w' ∧ Box w' w.heap.size (.bool s1) (.slice m1 n1 c1) ∧ Box w' (w.heap.size + 1) (.bool s2) (.slice m2 n2 c2) ∧ Box4 w' (w.heap.size + 1 + 1) (.bool false) (.slice none 0 0) (.bool false) (.slice none 0 0) ∧ IntAt w' (.agg #[.bool s1, .slice m1 n1 c1]) q.num ∧ IntAt w' (.agg #[.bool s2, .slice m2 n2 c2]) (q.den : Int)) (fun _ => true) 4 #[false, false, false, false] (by kernel_rfl) rfl rfl ?_
    have HF := hide (And.intro (HB.out.drew) (And.intro (P0.out.drew) (And.intro (P1.out.drew) (And.intro (P2.out.drew) (And.intro (I1.out.drew) (I2.out.drew))))))
    generalize w0.drew = w0d at *
    refine Calm.take (i := 0) (v := ?_) (a' := ?_) (l' := #[true, false, false, false]) (d := some 5) rfl (by kernel_rfl) (by kernel_rfl) (by kernel_rfl) (by kernel_rfl) (fun _ _ _ h => h) HF.out rfl ?_ rfl rfl ?_ ?_
    rotate_left
    · intro w' hF; have f10 := hF.2.1.cell0; have f11 := hF.2.1.cell1; have f20 := hF.2.2.1.cell0; have f21 := hF.2.2.1.cell1; have f30 := hF.2.2.2.1.cell0; have f31 := hF.2.2.2.1.cell1; have f32 := hF.2.2.2.1.cell2; have f33 := hF.2.2.2.1.cell3; clear hF; go_simp; try rfl
    rotate_left
    · simp only [Act.put]; exact rfl
    refine Calm.one (i := 1) (l' := #[true, true, false, false]) (by kernel_rfl) rfl rfl rfl fun K hK => ?_
    go_simp
    refine (iof_any 1 _ (by decide) (by decide)).mono ?_
    rintro e u1 ⟨v, rfl, n, hb⟩
    have HF' := hide (And.intro (HF.out.1.trans ((hb).mono HF.out.1.size)) (And.intro (HF.out.2.1.step (hb)) (And.intro (HF.out.2.2.1.step (hb)) (And.intro (HF.out.2.2.2.1.step (hb)) (And.intro (HF.out.2.2.2.2.1.below (hb)) (HF.out.2.2.2.2.2.below (hb)))))))
    have T1 := hide (n)
    refine hK _ _ (fun _ => HF'.out) ?_
    clear hK K HF hb n
    have HF := hide HF'.out
    clear HF'
    refine Calm.one (i := 2) (l' := #[true, true, true, false]) (by kernel_rfl) rfl rfl rfl fun K hK => ?_
    go_simp
    refine (icmp_any _ _ (q.den : Int) 1 _ HF.out.2.2.2.2.2 T1.out).mono ?_
    rintro e u2 ⟨he, hb⟩
    rw [C1.out] at he
    subst he
    clear T1
    have HF' := hide (And.intro (HF.out.1.trans ((hb).mono HF.out.1.size)) (And.intro (HF.out.2.1.step (hb)) (And.intro (HF.out.2.2.1.step (hb)) (And.intro (HF.out.2.2.2.1.step (hb)) (And.intro (HF.out.2.2.2.2.1.below (hb)) (HF.out.2.2.2.2.2.below (hb)))))))
    refine hK _ _ (fun _ => HF'.out) ?_
    clear hK K HF hb
    have HF := hide HF'.out
    clear HF'
    refine Calm.take (i := 3) (v := ?_) (a' := ?_) (l' := #[true, true, true, true]) (d := some 8) rfl (by kernel_rfl) (by kernel_rfl) (by kernel_rfl) (by kernel_rfl) (fun _ _ _ h => h) HF.out rfl ?_ rfl rfl ?_ ?_
    rotate_left
    · intro w' hF; clear hF; go_simp; try rfl
    rotate_left
    · simp only [Act.put]; exact rfl
    refine Calm.done (by kernel_rfl) ?_
    replace HB := hide HF.out.1
    replace P0 := hide HF.out.2.1
    replace P1 := hide HF.out.2.2.1
    replace P2 := hide HF.out.2.2.2.1
    replace I1 := hide HF.out.2.2.2.2.1
    replace I2 := hide HF.out.2.2.2.2.2
    clear HF
    have hP00 := P0.out.cell0
    have hP01 := P0.out.cell1
    go_wp2_with fail
    refine (whole_any _ q.num _ I1.out).mono ?_
    rintro e u3 ⟨v, rfl, n, hb⟩
    obtain ⟨s9, m9, n9, c9, t9, o9, p9, d9, rfl, n⟩ := n.cells
    clear hP00 hP01
    replace I1 := hide (I1.out.below (hb))
    replace I2 := hide (I2.out.below (hb))
    replace P0 := hide (P0.out.step (hb))
    replace P1 := hide (P1.out.step (hb))
    replace P2 := hide (P2.out.step (hb))
    replace HB := hide (HB.out.trans ((hb).mono HB.out.size))
    have TR := hide (n)
    clear hb n
    have hP20 := P2.out.cell0
    have hP21 := P2.out.cell1
    have hP22 := P2.out.cell2
    have hP23 := P2.out.cell3
    have fP20 := P2.out.free 0
    have fP21 := P2.out.free 1
    have fP22 := P2.out.free 2
    have fP23 := P2.out.free 3
    go_wp2
    refine ret_rat rfl (w.heap.size + 1 + 1) _ _ _ _ rfl (P2.out.put _ _ _ _) rfl ?_
    exact ⟨_, rfl, rat_whole HD.out ▸ TR.out.keep (P2.out.keeps (by simp) (by simp) (by simp) (by simp) _ _ _ _), below_put4 HB.out (by omega) _ _ _ _⟩
  · have C1 := hide (cmp_den2 hd)
    have HD := hide hd
    clear hd
    refine wp_calm (fun w' => Below w.heap.size w w' ∧ Box w' w.heap.size (.bool s1) (.slice m1 n1 c1) ∧ Box w' (w.heap.size + 1) (.bool s2) (.slice m2 n2 c2) ∧ Box4 w' (w.heap.size + 1 + 1) (.bool false) (.slice none 0 0) (.bool false) (.slice none 0 0) ∧ IntAt w' (.agg #[.bool s1, .slice m1 n1 c1]) q.num ∧ IntAt w' (.agg #[.bool s2, .slice m2 n2 c2]) (q.den : Int)) (fun _ => true) 4 #[false, false, false, false] (by kernel_rfl) rfl rfl ?_
    have HF := hide (And.intro (HB.out.drew) (And.intro (P0.out.drew) (And.intro (P1.out.drew) (And.intro (P2.out.drew) (And.intro (I1.out.drew) (I2.out.drew))))))
    generalize w0.drew = w0d at *
    refine Calm.take (i := 0) (v := ?_) (a' := ?_) (l' := #[true, false, false, false]) (d := some 5) rfl (by kernel_rfl) (by kernel_rfl) (by kernel_rfl) (by kernel_rfl) (fun _ _ _ h => h) HF.out rfl ?_ rfl rfl ?_ ?_
    rotate_left
    · intro w' hF; have f10 := hF.2.1.cell0; have f11 := hF.2.1.cell1; have f20 := hF.2.2.1.cell0; have f21 := hF.2.2.1.cell1; have f30 := hF.2.2.2.1.cell0; have f31 := hF.2.2.2.1.cell1; have f32 := hF.2.2.2.1.cell2; have f33 := hF.2.2.2.1.cell3; clear hF; go_simp; try rfl
    rotate_left
    · simp only [Act.put]; exact rfl
    refine Calm.one (i := 1) (l' := #[true, true, false, false]) (by kernel_rfl) rfl rfl rfl fun K hK => ?_
    go_simp
    refine (iof_any 1 _ (by decide) (by decide)).mono ?_
    rintro e u1 ⟨v, rfl, n, hb⟩
    have HF' := hide (And.intro (HF.out.1.trans ((hb).mono HF.out.1.size)) (And.intro (HF.out.2.1.step (hb)) (And.intro (HF.out.2.2.1.step (hb)) (And.intro (HF.out.2.2.2.1.step (hb)) (And.intro (HF.out.2.2.2.2.1.below (hb)) (HF.out.2.2.2.2.2.below (hb)))))))
    have T1 := hide (n)
    refine hK _ _ (fun _ => HF'.out) ?_
    clear hK K HF hb n
    have HF := hide HF'.out
    clear HF'
    refine Calm.one (i := 2) (l' := #[true, true, true, false]) (by kernel_rfl) rfl rfl rfl fun K hK => ?_
    go_simp
    refine (icmp_any _ _ (q.den : Int) 1 _ HF.out.2.2.2.2.2 T1.out).mono ?_
    rintro e u2 ⟨he, hb⟩
    rw [C1.out] at he
    subst he
    clear T1
    have HF' := hide (And.intro (HF.out.1.trans ((hb).mono HF.out.1.size)) (And.intro (HF.out.2.1.step (hb)) (And.intro (HF.out.2.2.1.step (hb)) (And.intro (HF.out.2.2.2.1.step (hb)) (And.intro (HF.out.2.2.2.2.1.below (hb)) (HF.out.2.2.2.2.2.below (hb)))))))
    refine hK _ _ (fun _ => HF'.out) ?_
    clear hK K HF hb
    have HF := hide HF'.out
    clear HF'
    refine Calm.take (i := 3) (v := ?_) (a' := ?_) (l' := #[true, true, true, true]) (d := some 8) rfl (by kernel_rfl) (by kernel_rfl) (by kernel_rfl) (by kernel_rfl) (fun _ _ _ h => h) HF.out rfl ?_ rfl rfl ?_ ?_
    rotate_left
    · intro w' hF; clear hF; go_simp; try rfl
    rotate_left
    · simp only [Act.put]; exact rfl
    refine Calm.done (by kernel_rfl) ?_
    replace HB := hide HF.out.1
    replace P0 := hide HF.out.2.1
    replace P1 := hide HF.out.2.2.1
    replace P2 := hide HF.out.2.2.2.1
    replace I1 := hide HF.out.2.2.2.2.1
    replace I2 := hide HF.out.2.2.2.2.2
    clear HF
    have hP00 := P0.out.cell0
    have hP01 := P0.out.cell1
    have hP10 := P1.out.cell0
    have hP11 := P1.out.cell1
    have hP20 := P2.out.cell0
    have hP21 := P2.out.cell1
    have hP22 := P2.out.cell2
    have hP23 := P2.out.cell3
    have fP20 := P2.out.free 0
    have fP21 := P2.out.free 1
    have fP22 := P2.out.free 2
    have fP23 := P2.out.free 3
    go_wp2
    refine ret_rat rfl (w.heap.size + 1 + 1) _ _ _ _ rfl (P2.out.put _ _ _ _) rfl ?_
    exact ⟨_, rfl, ⟨_, _, _, _, _, _, _, _, rfl, I1.out.keep (P2.out.keeps (by simp) (by simp) (by simp) (by simp) _ _ _ _), by rw [dn, if_neg HD.out]; exact I2.out.keep (P2.out.keeps (by simp) (by simp) (by simp) (by simp) _ _ _ _)⟩, below_put4 HB.out (by omega) _ _ _ _⟩

theorem com_len {n d : Int} (hd : d ≠ 0) (h : (lim d.natAbs).length ≤ 1000000000) : (lim (com n d).natAbs).length ≤ 1000000000 := by
  refine Nat.le_trans (lim_len_mono ?_) h
  have h1 : Int.gcd n d ≤ d.natAbs := Nat.le_of_dvd (by omega) (Int.gcd_dvd_natAbs_right n d)
  unfold com; split <;> omega

set_option maxRecDepth 100000 in
set_option maxHeartbeats 4000000 in
theorem lowest_any (v1 v2 : Value) (n d : Int) (w : World) (h1 : IntAt w v1 n) (h2 : IntAt w v2 d) (l1 : (lim n.natAbs).length ≤ 1000000000) (l2 : (lim d.natAbs).length ≤ 1000000000) (hd : d ≠ 0) :
    Calls Try.prog 36 #[v1, v2] w fun e w' => ∃ v', e = .returned v' ∧ RatAt w' v' (Rat.divInt n d) ∧ Below w.heap.size w w' := by
  obtain ⟨s1, m1, n1, c1, rfl, i1⟩ := h1.cells
  have I1 := hide i1
  clear h1 i1
  obtain ⟨s2, m2, n2, c2, rfl, i2⟩ := h2.cells
  have I2 := hide i2
  clear h2 i2
  have P0 := Box.new w (.bool s1) (.slice m1 n1 c1)
  replace P0 := P0.step (below_alloc _ (.cells #[.bool s2, .slice m2 n2 c2] 25))
  replace P0 := P0.step (below_alloc _ (.cells #[.bool false, .slice none 0 0, .bool false, .slice none 0 0] 27))
  replace P0 := hide P0
  have P1 := Box.new (w.alloc (.cells #[.bool s1, .slice m1 n1 c1] 25)) (.bool s2) (.slice m2 n2 c2)
  simp only [World.size_alloc] at P1
  replace P1 := P1.step (below_alloc _ (.cells #[.bool false, .slice none 0 0, .bool false, .slice none 0 0] 27))
  replace P1 := hide P1
  have P2 := Box4.new ((w.alloc (.cells #[.bool s1, .slice m1 n1 c1] 25)).alloc (.cells #[.bool s2, .slice m2 n2 c2] 25)) (.bool false) (.slice none 0 0) (.bool false) (.slice none 0 0)
  simp only [World.size_alloc] at P2
  replace P2 := hide P2
  have HB := below_alloc w (.cells #[.bool s1, .slice m1 n1 c1] 25)
  replace HB := HB.trans ((below_alloc _ (.cells #[.bool s2, .slice m2 n2 c2] 25)).mono (by simp only [World.size_alloc]; omega))
  replace HB := HB.trans ((below_alloc _ (.cells #[.bool false, .slice none 0 0, .bool false, .slice none 0 0] 27)).mono (by simp only [World.size_alloc]; omega))
  replace I1 := hide (I1.out.below HB)
  replace I2 := hide (I2.out.below HB)
  replace HB := hide HB
  go_enter Try.func36, Try.ntmps36
  go_wp2_with fail
  generalize (((w.alloc (.cells #[.bool s1, .slice m1 n1 c1] 25)).alloc (.cells #[.bool s2, .slice m2 n2 c2] 25)).alloc (.cells #[.bool false, .slice none 0 0, .bool false, .slice none 0 0] 27)) = w0 at *
  refine (igcd_any _ _ n d _ I1.out I2.out l1 l2).mono ?_
  rintro e u1 ⟨v, rfl, k, hb⟩
  obtain ⟨s3, m3, n3, c3, rfl, k⟩ := k.cells
  replace I1 := hide (I1.out.below (hb))
  replace I2 := hide (I2.out.below (hb))
  replace P0 := hide (P0.out.step (hb))
  replace P1 := hide (P1.out.step (hb))
  replace P2 := hide (P2.out.step (hb))
  replace HB := hide (HB.out.trans ((hb).mono HB.out.size))
  have I3 := hide (k)
  clear hb k
  have hP10 := P1.out.cell0
  have hP11 := P1.out.cell1
  have hlt := P1.out.lt
  go_wp2_with fail
  clear hlt
  clear hP10 hP11
  have LTS := hide P2.out.lt
  have al := below_alloc u1 (.cells #[.bool s3, .slice m3 n3 c3] 25)
  replace I1 := hide (I1.out.below (al))
  replace I2 := hide (I2.out.below (al))
  replace P0 := hide (P0.out.step (al))
  replace P1 := hide (P1.out.step (al))
  replace P2 := hide (P2.out.step (al))
  replace HB := hide (HB.out.trans ((al).mono HB.out.size))
  replace I3 := hide (I3.out.below (al))
  have P3 := hide (Box.new u1 (.bool s3) (.slice m3 n3 c3))
  clear al
  generalize u1.alloc (.cells #[.bool s3, .slice m3 n3 c3] 25) = u1a at *
  generalize u1.heap.size = g3 at *
  refine (isign_any _ d _ I2.out).mono ?_
  rintro e u2 ⟨he, hb⟩
  replace I1 := hide (I1.out.below (hb))
  replace I2 := hide (I2.out.below (hb))
  replace P0 := hide (P0.out.step (hb))
  replace P1 := hide (P1.out.step (hb))
  replace P2 := hide (P2.out.step (hb))
  replace HB := hide (HB.out.trans ((hb).mono HB.out.size))
  replace I3 := hide (I3.out.below (hb))
  replace P3 := hide (P3.out.step (hb))
  clear hb
  by_cases hs : d < 0
  · have HS := hide hs
    rw [show sgnI d = -1 from if_pos hs] at he
    subst he
    clear hs
    have hP30 := P3.out.cell0
    have hP31 := P3.out.cell1
    go_wp2_with fail
    refine (ineg_any _ (Int.gcd n d : Int) _ I3.out).mono ?_
    rintro e u3 ⟨v, rfl, k, hb⟩
    obtain ⟨s4, m4, n4, c4, rfl, k⟩ := k.cells
    clear hP30 hP31
    replace I1 := hide (I1.out.below (hb))
    replace I2 := hide (I2.out.below (hb))
    replace P0 := hide (P0.out.step (hb))
    replace P1 := hide (P1.out.step (hb))
    replace P2 := hide (P2.out.step (hb))
    replace HB := hide (HB.out.trans ((hb).mono HB.out.size))
    replace I3 := hide (I3.out.below (hb))
    replace P3 := hide (P3.out.step (hb))
    have I4 := hide (k)
    clear hb k
    have hP30 := P3.out.cell0
    have hP31 := P3.out.cell1
    have fP30 := P3.out.free 0
    have fP31 := P3.out.free 1
    go_wp2_with fail
    clear hP30 hP31 fP30 fP31
    replace I1 := hide (I1.out.keep (P3.out.keeps (by simp) (by simp) (.bool s4) (.slice m4 n4 c4)))
    replace I2 := hide (I2.out.keep (P3.out.keeps (by simp) (by simp) (.bool s4) (.slice m4 n4 c4)))
    replace P0 := hide (P0.out.other (C := g3) (by have hx := LTS.out; omega) (.bool s4) (.slice m4 n4 c4))
    replace P1 := hide (P1.out.other (C := g3) (by have hx := LTS.out; omega) (.bool s4) (.slice m4 n4 c4))
    replace P2 := hide (P2.out.other (C := g3) (by have hx := LTS.out; omega) (.bool s4) (.slice m4 n4 c4))
    replace HB := hide (below_put HB.out (show w.heap.size ≤ g3 by have hx := LTS.out; omega) (.bool s4) (.slice m4 n4 c4))
    replace I3 := hide (I3.out.keep (P3.out.keeps (by simp) (by simp) (.bool s4) (.slice m4 n4 c4)))
    replace I4 := hide (I4.out.keep (P3.out.keeps (by simp) (by simp) (.bool s4) (.slice m4 n4 c4)))
    replace P3 := hide (P3.out.put (.bool s4) (.slice m4 n4 c4))
    generalize ((u3.setCell ⟨g3, 0, none⟩ (.bool s4)).setCell ⟨g3, 1, none⟩ (.slice m4 n4 c4)) = u4 at *
    have I5 := hide (show IntAt u4 (.agg #[.bool s4, .slice m4 n4 c4]) (com n d) from by have := I4.out; rwa [show (-(Int.gcd n d : Int)) = com n d from (if_pos HS.out).symm] at this)
    replace P2 := hide P2.out.drew
    refine wp_calm (fun w' => Below w.heap.size w w' ∧ Box w' w.heap.size (.bool s1) (.slice m1 n1 c1) ∧ Box w' (w.heap.size + 1) (.bool s2) (.slice m2 n2 c2) ∧ Box w' g3 (.bool s4) (.slice m4 n4 c4) ∧ IntAt w' (.agg #[.bool s1, .slice m1 n1 c1]) n ∧ IntAt w' (.agg #[.bool s2, .slice m2 n2 c2]) d ∧ IntAt w' (.agg #[.bool s4, .slice m4 n4 c4]) (com n d)) (fun _ => true) 8 #[false, false, false, false, false, false, false, false] (by kernel_rfl) rfl rfl ?_
    have HF := hide (And.intro (HB.out.drew) (And.intro (P0.out.drew) (And.intro (P1.out.drew) (And.intro (P3.out.drew) (And.intro (I1.out.drew) (And.intro (I2.out.drew) (I5.out.drew)))))))
    generalize u4.drew = u4d at *
    refine Calm.take (i := 0) (v := ?_) (a' := ?_) (l' := #[true, false, false, false, false, false, false, false]) (d := some 14) rfl (by kernel_rfl) (by kernel_rfl) (by kernel_rfl) (by kernel_rfl) (fun _ _ _ h => h) HF.out rfl ?_ rfl rfl ?_ ?_
    rotate_left
    · intro w' hF; have f10 := hF.2.1.cell0; have f11 := hF.2.1.cell1; have f20 := hF.2.2.1.cell0; have f21 := hF.2.2.1.cell1; have f30 := hF.2.2.2.1.cell0; have f31 := hF.2.2.2.1.cell1; clear hF; go_simp; try rfl
    rotate_left
    · simp only [Act.put]; exact rfl
    refine Calm.take (i := 1) (v := ?_) (a' := ?_) (l' := #[true, true, false, false, false, false, false, false]) (d := some 15) rfl (by kernel_rfl) (by kernel_rfl) (by kernel_rfl) (by kernel_rfl) (fun _ _ _ h => h) HF.out rfl ?_ rfl rfl ?_ ?_
    rotate_left
    · intro w' hF; have f10 := hF.2.1.cell0; have f11 := hF.2.1.cell1; have f20 := hF.2.2.1.cell0; have f21 := hF.2.2.1.cell1; have f30 := hF.2.2.2.1.cell0; have f31 := hF.2.2.2.1.cell1; clear hF; go_simp; try rfl
    rotate_left
    · simp only [Act.put]; exact rfl
    refine Calm.take (i := 3) (v := ?_) (a' := ?_) (l' := #[true, true, false, true, false, false, false, false]) (d := some 17) rfl (by kernel_rfl) (by kernel_rfl) (by kernel_rfl) (by kernel_rfl) (fun _ _ _ h => h) HF.out rfl ?_ rfl rfl ?_ ?_
    rotate_left
    · intro w' hF; have f10 := hF.2.1.cell0; have f11 := hF.2.1.cell1; have f20 := hF.2.2.1.cell0; have f21 := hF.2.2.1.cell1; have f30 := hF.2.2.2.1.cell0; have f31 := hF.2.2.2.1.cell1; clear hF; go_simp; try rfl
    rotate_left
    · simp only [Act.put]; exact rfl
    refine Calm.take (i := 4) (v := ?_) (a' := ?_) (l' := #[true, true, false, true, true, false, false, false]) (d := some 18) rfl (by kernel_rfl) (by kernel_rfl) (by kernel_rfl) (by kernel_rfl) (fun _ _ _ h => h) HF.out rfl ?_ rfl rfl ?_ ?_
    rotate_left
    · intro w' hF; have f10 := hF.2.1.cell0; have f11 := hF.2.1.cell1; have f20 := hF.2.2.1.cell0; have f21 := hF.2.2.1.cell1; have f30 := hF.2.2.2.1.cell0; have f31 := hF.2.2.2.1.cell1; clear hF; go_simp; try rfl
    rotate_left
    · simp only [Act.put]; exact rfl
    refine Calm.one (i := 2) (l' := #[true, true, true, true, true, false, false, false]) (by kernel_rfl) rfl rfl rfl fun K hK => ?_
    go_simp
    refine (quotient_any _ _ n (com n d) _ HF.out.2.2.2.2.1 HF.out.2.2.2.2.2.2 l1 (com_len hd l2) (com_ne hd)).mono ?_
    rintro e u5 ⟨v, rfl, n, hb⟩
    replace P2 := hide (P2.out.step (hb))
    have HF' := hide (And.intro (HF.out.1.trans ((hb).mono HF.out.1.size)) (And.intro (HF.out.2.1.step (hb)) (And.intro (HF.out.2.2.1.step (hb)) (And.intro (HF.out.2.2.2.1.step (hb)) (And.intro (HF.out.2.2.2.2.1.below (hb)) (And.intro (HF.out.2.2.2.2.2.1.below (hb)) (HF.out.2.2.2.2.2.2.below (hb))))))))
    have T1 := hide (n)
    refine hK _ _ (fun _ => HF'.out) ?_
    clear hK K HF hb n
    have HF := hide HF'.out
    clear HF'
    refine Calm.one (i := 5) (l' := #[true, true, true, true, true, true, false, false]) (by kernel_rfl) rfl rfl rfl fun K hK => ?_
    go_simp
    refine (quotient_any _ _ d (com n d) _ HF.out.2.2.2.2.2.1 HF.out.2.2.2.2.2.2 l2 (com_len hd l2) (com_ne hd)).mono ?_
    rintro e u6 ⟨v, rfl, n, hb⟩
    replace P2 := hide (P2.out.step (hb))
    replace T1 := hide (T1.out.below (hb))
    have HF' := hide (And.intro (HF.out.1.trans ((hb).mono HF.out.1.size)) (And.intro (HF.out.2.1.step (hb)) (And.intro (HF.out.2.2.1.step (hb)) (And.intro (HF.out.2.2.2.1.step (hb)) (And.intro (HF.out.2.2.2.2.1.below (hb)) (And.intro (HF.out.2.2.2.2.2.1.below (hb)) (HF.out.2.2.2.2.2.2.below (hb))))))))
    have T2 := hide (n)
    refine hK _ _ (fun _ => HF'.out) ?_
    clear hK K HF hb n
    have HF := hide HF'.out
    clear HF'
    refine Calm.one (i := 6) (l' := #[true, true, true, true, true, true, true, false]) (by kernel_rfl) rfl rfl rfl fun K hK => ?_
    go_simp
    refine (rmade_any _ _ (Rat.divInt n d) _ (com_num hd ▸ T1.out) (com_den hd ▸ T2.out)).mono ?_
    rintro e u7 ⟨v, rfl, n, hb⟩
    obtain ⟨s9, m9, n9, c9, t9, o9, p9, d9, rfl, n⟩ := n.cells
    replace P2 := hide (P2.out.step (hb))
    clear T1
    clear T2
    have HF' := hide (And.intro (HF.out.1.trans ((hb).mono HF.out.1.size)) (And.intro (HF.out.2.1.step (hb)) (And.intro (HF.out.2.2.1.step (hb)) (And.intro (HF.out.2.2.2.1.step (hb)) (And.intro (HF.out.2.2.2.2.1.below (hb)) (And.intro (HF.out.2.2.2.2.2.1.below (hb)) (HF.out.2.2.2.2.2.2.below (hb))))))))
    have TR := hide (n)
    refine hK _ _ (fun _ => HF'.out) ?_
    clear hK K HF hb n
    have HF := hide HF'.out
    clear HF'
    refine Calm.one (i := 7) (l' := #[true, true, true, true, true, true, true, true]) (by kernel_rfl) rfl rfl rfl fun K hK => ?_
    have hc0 := P2.out.cell0
    have hc1 := P2.out.cell1
    have hc2 := P2.out.cell2
    have hc3 := P2.out.cell3
    have hf0 := P2.out.free 0
    have hf1 := P2.out.free 1
    have hf2 := P2.out.free 2
    have hf3 := P2.out.free 3
    go_simp
    have HF' := hide (And.intro (below_put4 HF.out.1 (show w.heap.size ≤ (w.heap.size + 1 + 1) by have hx := LTS.out; omega) (.bool s9) (.slice m9 n9 c9) (.bool t9) (.slice o9 p9 d9)) (And.intro (HF.out.2.1.other4 (C := (w.heap.size + 1 + 1)) (by have hx := LTS.out; omega) (.bool s9) (.slice m9 n9 c9) (.bool t9) (.slice o9 p9 d9)) (And.intro (HF.out.2.2.1.other4 (C := (w.heap.size + 1 + 1)) (by have hx := LTS.out; omega) (.bool s9) (.slice m9 n9 c9) (.bool t9) (.slice o9 p9 d9)) (And.intro (HF.out.2.2.2.1.other4 (C := (w.heap.size + 1 + 1)) (by have hx := LTS.out; omega) (.bool s9) (.slice m9 n9 c9) (.bool t9) (.slice o9 p9 d9)) (And.intro (HF.out.2.2.2.2.1.keep (P2.out.keeps (by simp) (by simp) (by simp) (by simp) (.bool s9) (.slice m9 n9 c9) (.bool t9) (.slice o9 p9 d9))) (And.intro (HF.out.2.2.2.2.2.1.keep (P2.out.keeps (by simp) (by simp) (by simp) (by simp) (.bool s9) (.slice m9 n9 c9) (.bool t9) (.slice o9 p9 d9))) (HF.out.2.2.2.2.2.2.keep (P2.out.keeps (by simp) (by simp) (by simp) (by simp) (.bool s9) (.slice m9 n9 c9) (.bool t9) (.slice o9 p9 d9)))))))))
    replace TR := hide (TR.out.keep (P2.out.keeps (by simp) (by simp) (by simp) (by simp) (.bool s9) (.slice m9 n9 c9) (.bool t9) (.slice o9 p9 d9)))
    replace P2 := hide (P2.out.put (.bool s9) (.slice m9 n9 c9) (.bool t9) (.slice o9 p9 d9))
    refine hK _ _ (fun _ => HF'.out) ?_
    clear hK K HF hc0 hf0 hc1 hf1 hc2 hf2 hc3 hf3
    have HF := hide HF'.out
    clear HF'
    generalize ((((u7.setCell ⟨(w.heap.size + 1 + 1), 0, none⟩ (.bool s9)).setCell ⟨(w.heap.size + 1 + 1), 1, none⟩ (.slice m9 n9 c9)).setCell ⟨(w.heap.size + 1 + 1), 2, none⟩ (.bool t9)).setCell ⟨(w.heap.size + 1 + 1), 3, none⟩ (.slice o9 p9 d9)) = u8 at *
    refine Calm.done (by kernel_rfl) ?_
    replace HB := hide HF.out.1
    replace P0 := hide HF.out.2.1
    replace P1 := hide HF.out.2.2.1
    replace P3 := hide HF.out.2.2.2.1
    replace I1 := hide HF.out.2.2.2.2.1
    replace I2 := hide HF.out.2.2.2.2.2.1
    replace I5 := hide HF.out.2.2.2.2.2.2
    clear HF
    clear I3
    clear I4
    go_wp2
    refine ret_rat rfl (w.heap.size + 1 + 1) _ _ _ _ rfl P2.out rfl ?_
    exact ⟨_, rfl, TR.out, HB.out⟩
  · have HS := hide hs
    have SG : ¬ sgnI d < 0 := by unfold sgnI; rw [if_neg hs]; split <;> omega
    generalize sgnI d = sd at *
    subst he
    clear hs
    go_wp2_with fail
    clear SG
    have I5 := hide (show IntAt u2 (.agg #[.bool s3, .slice m3 n3 c3]) (com n d) from by have := I3.out; rwa [show ((Int.gcd n d : Int)) = com n d from (if_neg (by have := HS.out; omega)).symm] at this)
    replace P2 := hide P2.out.drew
    refine wp_calm (fun w' => Below w.heap.size w w' ∧ Box w' w.heap.size (.bool s1) (.slice m1 n1 c1) ∧ Box w' (w.heap.size + 1) (.bool s2) (.slice m2 n2 c2) ∧ Box w' g3 (.bool s3) (.slice m3 n3 c3) ∧ IntAt w' (.agg #[.bool s1, .slice m1 n1 c1]) n ∧ IntAt w' (.agg #[.bool s2, .slice m2 n2 c2]) d ∧ IntAt w' (.agg #[.bool s3, .slice m3 n3 c3]) (com n d)) (fun _ => true) 8 #[false, false, false, false, false, false, false, false] (by kernel_rfl) rfl rfl ?_
    have HF := hide (And.intro (HB.out.drew) (And.intro (P0.out.drew) (And.intro (P1.out.drew) (And.intro (P3.out.drew) (And.intro (I1.out.drew) (And.intro (I2.out.drew) (I5.out.drew)))))))
    generalize u2.drew = u2d at *
    refine Calm.take (i := 0) (v := ?_) (a' := ?_) (l' := #[true, false, false, false, false, false, false, false]) (d := some 14) rfl (by kernel_rfl) (by kernel_rfl) (by kernel_rfl) (by kernel_rfl) (fun _ _ _ h => h) HF.out rfl ?_ rfl rfl ?_ ?_
    rotate_left
    · intro w' hF; have f10 := hF.2.1.cell0; have f11 := hF.2.1.cell1; have f20 := hF.2.2.1.cell0; have f21 := hF.2.2.1.cell1; have f30 := hF.2.2.2.1.cell0; have f31 := hF.2.2.2.1.cell1; clear hF; go_simp; try rfl
    rotate_left
    · simp only [Act.put]; exact rfl
    refine Calm.take (i := 1) (v := ?_) (a' := ?_) (l' := #[true, true, false, false, false, false, false, false]) (d := some 15) rfl (by kernel_rfl) (by kernel_rfl) (by kernel_rfl) (by kernel_rfl) (fun _ _ _ h => h) HF.out rfl ?_ rfl rfl ?_ ?_
    rotate_left
    · intro w' hF; have f10 := hF.2.1.cell0; have f11 := hF.2.1.cell1; have f20 := hF.2.2.1.cell0; have f21 := hF.2.2.1.cell1; have f30 := hF.2.2.2.1.cell0; have f31 := hF.2.2.2.1.cell1; clear hF; go_simp; try rfl
    rotate_left
    · simp only [Act.put]; exact rfl
    refine Calm.take (i := 3) (v := ?_) (a' := ?_) (l' := #[true, true, false, true, false, false, false, false]) (d := some 17) rfl (by kernel_rfl) (by kernel_rfl) (by kernel_rfl) (by kernel_rfl) (fun _ _ _ h => h) HF.out rfl ?_ rfl rfl ?_ ?_
    rotate_left
    · intro w' hF; have f10 := hF.2.1.cell0; have f11 := hF.2.1.cell1; have f20 := hF.2.2.1.cell0; have f21 := hF.2.2.1.cell1; have f30 := hF.2.2.2.1.cell0; have f31 := hF.2.2.2.1.cell1; clear hF; go_simp; try rfl
    rotate_left
    · simp only [Act.put]; exact rfl
    refine Calm.take (i := 4) (v := ?_) (a' := ?_) (l' := #[true, true, false, true, true, false, false, false]) (d := some 18) rfl (by kernel_rfl) (by kernel_rfl) (by kernel_rfl) (by kernel_rfl) (fun _ _ _ h => h) HF.out rfl ?_ rfl rfl ?_ ?_
    rotate_left
    · intro w' hF; have f10 := hF.2.1.cell0; have f11 := hF.2.1.cell1; have f20 := hF.2.2.1.cell0; have f21 := hF.2.2.1.cell1; have f30 := hF.2.2.2.1.cell0; have f31 := hF.2.2.2.1.cell1; clear hF; go_simp; try rfl
    rotate_left
    · simp only [Act.put]; exact rfl
    refine Calm.one (i := 2) (l' := #[true, true, true, true, true, false, false, false]) (by kernel_rfl) rfl rfl rfl fun K hK => ?_
    go_simp
    refine (quotient_any _ _ n (com n d) _ HF.out.2.2.2.2.1 HF.out.2.2.2.2.2.2 l1 (com_len hd l2) (com_ne hd)).mono ?_
    rintro e u5 ⟨v, rfl, n, hb⟩
    replace P2 := hide (P2.out.step (hb))
    have HF' := hide (And.intro (HF.out.1.trans ((hb).mono HF.out.1.size)) (And.intro (HF.out.2.1.step (hb)) (And.intro (HF.out.2.2.1.step (hb)) (And.intro (HF.out.2.2.2.1.step (hb)) (And.intro (HF.out.2.2.2.2.1.below (hb)) (And.intro (HF.out.2.2.2.2.2.1.below (hb)) (HF.out.2.2.2.2.2.2.below (hb))))))))
    have T1 := hide (n)
    refine hK _ _ (fun _ => HF'.out) ?_
    clear hK K HF hb n
    have HF := hide HF'.out
    clear HF'
    refine Calm.one (i := 5) (l' := #[true, true, true, true, true, true, false, false]) (by kernel_rfl) rfl rfl rfl fun K hK => ?_
    go_simp
    refine (quotient_any _ _ d (com n d) _ HF.out.2.2.2.2.2.1 HF.out.2.2.2.2.2.2 l2 (com_len hd l2) (com_ne hd)).mono ?_
    rintro e u6 ⟨v, rfl, n, hb⟩
    replace P2 := hide (P2.out.step (hb))
    replace T1 := hide (T1.out.below (hb))
    have HF' := hide (And.intro (HF.out.1.trans ((hb).mono HF.out.1.size)) (And.intro (HF.out.2.1.step (hb)) (And.intro (HF.out.2.2.1.step (hb)) (And.intro (HF.out.2.2.2.1.step (hb)) (And.intro (HF.out.2.2.2.2.1.below (hb)) (And.intro (HF.out.2.2.2.2.2.1.below (hb)) (HF.out.2.2.2.2.2.2.below (hb))))))))
    have T2 := hide (n)
    refine hK _ _ (fun _ => HF'.out) ?_
    clear hK K HF hb n
    have HF := hide HF'.out
    clear HF'
    refine Calm.one (i := 6) (l' := #[true, true, true, true, true, true, true, false]) (by kernel_rfl) rfl rfl rfl fun K hK => ?_
    go_simp
    refine (rmade_any _ _ (Rat.divInt n d) _ (com_num hd ▸ T1.out) (com_den hd ▸ T2.out)).mono ?_
    rintro e u7 ⟨v, rfl, n, hb⟩
    obtain ⟨s9, m9, n9, c9, t9, o9, p9, d9, rfl, n⟩ := n.cells
    replace P2 := hide (P2.out.step (hb))
    clear T1
    clear T2
    have HF' := hide (And.intro (HF.out.1.trans ((hb).mono HF.out.1.size)) (And.intro (HF.out.2.1.step (hb)) (And.intro (HF.out.2.2.1.step (hb)) (And.intro (HF.out.2.2.2.1.step (hb)) (And.intro (HF.out.2.2.2.2.1.below (hb)) (And.intro (HF.out.2.2.2.2.2.1.below (hb)) (HF.out.2.2.2.2.2.2.below (hb))))))))
    have TR := hide (n)
    refine hK _ _ (fun _ => HF'.out) ?_
    clear hK K HF hb n
    have HF := hide HF'.out
    clear HF'
    refine Calm.one (i := 7) (l' := #[true, true, true, true, true, true, true, true]) (by kernel_rfl) rfl rfl rfl fun K hK => ?_
    have hc0 := P2.out.cell0
    have hc1 := P2.out.cell1
    have hc2 := P2.out.cell2
    have hc3 := P2.out.cell3
    have hf0 := P2.out.free 0
    have hf1 := P2.out.free 1
    have hf2 := P2.out.free 2
    have hf3 := P2.out.free 3
    go_simp
    have HF' := hide (And.intro (below_put4 HF.out.1 (show w.heap.size ≤ (w.heap.size + 1 + 1) by have hx := LTS.out; omega) (.bool s9) (.slice m9 n9 c9) (.bool t9) (.slice o9 p9 d9)) (And.intro (HF.out.2.1.other4 (C := (w.heap.size + 1 + 1)) (by have hx := LTS.out; omega) (.bool s9) (.slice m9 n9 c9) (.bool t9) (.slice o9 p9 d9)) (And.intro (HF.out.2.2.1.other4 (C := (w.heap.size + 1 + 1)) (by have hx := LTS.out; omega) (.bool s9) (.slice m9 n9 c9) (.bool t9) (.slice o9 p9 d9)) (And.intro (HF.out.2.2.2.1.other4 (C := (w.heap.size + 1 + 1)) (by have hx := LTS.out; omega) (.bool s9) (.slice m9 n9 c9) (.bool t9) (.slice o9 p9 d9)) (And.intro (HF.out.2.2.2.2.1.keep (P2.out.keeps (by simp) (by simp) (by simp) (by simp) (.bool s9) (.slice m9 n9 c9) (.bool t9) (.slice o9 p9 d9))) (And.intro (HF.out.2.2.2.2.2.1.keep (P2.out.keeps (by simp) (by simp) (by simp) (by simp) (.bool s9) (.slice m9 n9 c9) (.bool t9) (.slice o9 p9 d9))) (HF.out.2.2.2.2.2.2.keep (P2.out.keeps (by simp) (by simp) (by simp) (by simp) (.bool s9) (.slice m9 n9 c9) (.bool t9) (.slice o9 p9 d9)))))))))
    replace TR := hide (TR.out.keep (P2.out.keeps (by simp) (by simp) (by simp) (by simp) (.bool s9) (.slice m9 n9 c9) (.bool t9) (.slice o9 p9 d9)))
    replace P2 := hide (P2.out.put (.bool s9) (.slice m9 n9 c9) (.bool t9) (.slice o9 p9 d9))
    refine hK _ _ (fun _ => HF'.out) ?_
    clear hK K HF hc0 hf0 hc1 hf1 hc2 hf2 hc3 hf3
    have HF := hide HF'.out
    clear HF'
    generalize ((((u7.setCell ⟨(w.heap.size + 1 + 1), 0, none⟩ (.bool s9)).setCell ⟨(w.heap.size + 1 + 1), 1, none⟩ (.slice m9 n9 c9)).setCell ⟨(w.heap.size + 1 + 1), 2, none⟩ (.bool t9)).setCell ⟨(w.heap.size + 1 + 1), 3, none⟩ (.slice o9 p9 d9)) = u8 at *
    refine Calm.done (by kernel_rfl) ?_
    replace HB := hide HF.out.1
    replace P0 := hide HF.out.2.1
    replace P1 := hide HF.out.2.2.1
    replace P3 := hide HF.out.2.2.2.1
    replace I1 := hide HF.out.2.2.2.2.1
    replace I2 := hide HF.out.2.2.2.2.2.1
    replace I5 := hide HF.out.2.2.2.2.2.2
    clear HF
    clear I3
    go_wp2
    refine ret_rat rfl (w.heap.size + 1 + 1) _ _ _ _ rfl P2.out rfl ?_
    exact ⟨_, rfl, TR.out, HB.out⟩

set_option maxRecDepth 100000 in
set_option maxHeartbeats 4000000 in
theorem rtmake_zero (v1 v2 : Value) (n d : Int) (w : World) (h1 : IntAt w v1 n) (h2 : IntAt w v2 d) (hd : d = 0) :
    Calls Try.prog 9 #[v1, v2] w fun e w' => ∃ v', e = .returned (.tuple #[v', .int .i64 2]) ∧ RatAt w' v' 0 ∧ Below w.heap.size w w' := by
  obtain ⟨s1, m1, n1, c1, rfl, i1⟩ := h1.cells
  have I1 := hide i1
  clear h1 i1
  obtain ⟨s2, m2, n2, c2, rfl, i2⟩ := h2.cells
  have I2 := hide i2
  clear h2 i2
  have P0 := Box.new w (.bool s1) (.slice m1 n1 c1)
  replace P0 := P0.step (below_alloc _ (.cells #[.bool s2, .slice m2 n2 c2] 25))
  replace P0 := P0.step (below_alloc _ (.cells #[.bool false, .slice none 0 0, .bool false, .slice none 0 0] 27))
  replace P0 := hide P0
  have P1 := Box.new (w.alloc (.cells #[.bool s1, .slice m1 n1 c1] 25)) (.bool s2) (.slice m2 n2 c2)
  simp only [World.size_alloc] at P1
  replace P1 := P1.step (below_alloc _ (.cells #[.bool false, .slice none 0 0, .bool false, .slice none 0 0] 27))
  replace P1 := hide P1
  have P2 := Box4.new ((w.alloc (.cells #[.bool s1, .slice m1 n1 c1] 25)).alloc (.cells #[.bool s2, .slice m2 n2 c2] 25)) (.bool false) (.slice none 0 0) (.bool false) (.slice none 0 0)
  simp only [World.size_alloc] at P2
  replace P2 := hide P2
  have HB := below_alloc w (.cells #[.bool s1, .slice m1 n1 c1] 25)
  replace HB := HB.trans ((below_alloc _ (.cells #[.bool s2, .slice m2 n2 c2] 25)).mono (by simp only [World.size_alloc]; omega))
  replace HB := HB.trans ((below_alloc _ (.cells #[.bool false, .slice none 0 0, .bool false, .slice none 0 0] 27)).mono (by simp only [World.size_alloc]; omega))
  replace I1 := hide (I1.out.below HB)
  replace I2 := hide (I2.out.below HB)
  replace HB := hide HB
  go_enter Try.func9, Try.ntmps9
  go_wp2_with fail
  generalize (((w.alloc (.cells #[.bool s1, .slice m1 n1 c1] 25)).alloc (.cells #[.bool s2, .slice m2 n2 c2] 25)).alloc (.cells #[.bool false, .slice none 0 0, .bool false, .slice none 0 0] 27)) = w0 at *
  refine (isign_any _ d _ I2.out).mono ?_
  rintro e u1 ⟨he, hb⟩
  replace I1 := hide (I1.out.below (hb))
  replace I2 := hide (I2.out.below (hb))
  replace P0 := hide (P0.out.step (hb))
  replace P1 := hide (P1.out.step (hb))
  replace P2 := hide (P2.out.step (hb))
  replace HB := hide (HB.out.trans ((hb).mono HB.out.size))
  clear hb
  rw [show sgnI d = 0 from by rw [hd]; rfl] at he
  subst he
  have hP20 := P2.out.cell0
  have hP21 := P2.out.cell1
  have hP22 := P2.out.cell2
  have hP23 := P2.out.cell3
  have fP20 := P2.out.free 0
  have fP21 := P2.out.free 1
  have fP22 := P2.out.free 2
  have fP23 := P2.out.free 3
  go_wp2
  refine ret_rate rfl (w.heap.size + 1 + 1) _ _ _ _ rfl (P2.out.put _ _ _ _) rfl ?_
  exact ⟨_, rfl, ⟨false, none, 0, 0, false, none, 0, 0, rfl, int_zero0 _, int_zero0 _⟩, below_put4 HB.out (by omega) _ _ _ _⟩

set_option maxRecDepth 100000 in
set_option maxHeartbeats 4000000 in
theorem rtmake_any (v1 v2 : Value) (n d : Int) (w : World) (h1 : IntAt w v1 n) (h2 : IntAt w v2 d) (l1 : (lim n.natAbs).length ≤ 1000000000) (l2 : (lim d.natAbs).length ≤ 1000000000) (hd : d ≠ 0) :
    Calls Try.prog 9 #[v1, v2] w fun e w' => ∃ v', e = .returned (.tuple #[v', .int .i64 0]) ∧ RatAt w' v' (Rat.divInt n d) ∧ Below w.heap.size w w' := by
  obtain ⟨s1, m1, n1, c1, rfl, i1⟩ := h1.cells
  have I1 := hide i1
  clear h1 i1
  obtain ⟨s2, m2, n2, c2, rfl, i2⟩ := h2.cells
  have I2 := hide i2
  clear h2 i2
  have P0 := Box.new w (.bool s1) (.slice m1 n1 c1)
  replace P0 := P0.step (below_alloc _ (.cells #[.bool s2, .slice m2 n2 c2] 25))
  replace P0 := P0.step (below_alloc _ (.cells #[.bool false, .slice none 0 0, .bool false, .slice none 0 0] 27))
  replace P0 := hide P0
  have P1 := Box.new (w.alloc (.cells #[.bool s1, .slice m1 n1 c1] 25)) (.bool s2) (.slice m2 n2 c2)
  simp only [World.size_alloc] at P1
  replace P1 := P1.step (below_alloc _ (.cells #[.bool false, .slice none 0 0, .bool false, .slice none 0 0] 27))
  replace P1 := hide P1
  have P2 := Box4.new ((w.alloc (.cells #[.bool s1, .slice m1 n1 c1] 25)).alloc (.cells #[.bool s2, .slice m2 n2 c2] 25)) (.bool false) (.slice none 0 0) (.bool false) (.slice none 0 0)
  simp only [World.size_alloc] at P2
  replace P2 := hide P2
  have HB := below_alloc w (.cells #[.bool s1, .slice m1 n1 c1] 25)
  replace HB := HB.trans ((below_alloc _ (.cells #[.bool s2, .slice m2 n2 c2] 25)).mono (by simp only [World.size_alloc]; omega))
  replace HB := HB.trans ((below_alloc _ (.cells #[.bool false, .slice none 0 0, .bool false, .slice none 0 0] 27)).mono (by simp only [World.size_alloc]; omega))
  replace I1 := hide (I1.out.below HB)
  replace I2 := hide (I2.out.below HB)
  replace HB := hide HB
  go_enter Try.func9, Try.ntmps9
  go_wp2_with fail
  generalize (((w.alloc (.cells #[.bool s1, .slice m1 n1 c1] 25)).alloc (.cells #[.bool s2, .slice m2 n2 c2] 25)).alloc (.cells #[.bool false, .slice none 0 0, .bool false, .slice none 0 0] 27)) = w0 at *
  refine (isign_any _ d _ I2.out).mono ?_
  rintro e u1 ⟨he, hb⟩
  replace I1 := hide (I1.out.below (hb))
  replace I2 := hide (I2.out.below (hb))
  replace P0 := hide (P0.out.step (hb))
  replace P1 := hide (P1.out.step (hb))
  replace P2 := hide (P2.out.step (hb))
  replace HB := hide (HB.out.trans ((hb).mono HB.out.size))
  clear hb
  have SG : ¬ sgnI d = 0 := by unfold sgnI; split <;> (try split) <;> omega
  have SG' : (sgnI d == 0) = false := by simpa using SG
  generalize sgnI d = sd at *
  subst he
  have hP00 := P0.out.cell0
  have hP01 := P0.out.cell1
  have hP10 := P1.out.cell0
  have hP11 := P1.out.cell1
  go_wp2_with fail
  clear hP00 hP01
  clear hP10 hP11
  clear SG SG'
  refine (lowest_any _ _ n d _ I1.out I2.out l1 l2 hd).mono ?_
  rintro e u3 ⟨v, rfl, k, hb⟩
  obtain ⟨s9, m9, n9, c9, t9, o9, p9, d9, rfl, k⟩ := k.cells
  replace I1 := hide (I1.out.below (hb))
  replace I2 := hide (I2.out.below (hb))
  replace P0 := hide (P0.out.step (hb))
  replace P1 := hide (P1.out.step (hb))
  replace P2 := hide (P2.out.step (hb))
  replace HB := hide (HB.out.trans ((hb).mono HB.out.size))
  have TR := hide (k)
  clear hb k
  have hP20 := P2.out.cell0
  have hP21 := P2.out.cell1
  have hP22 := P2.out.cell2
  have hP23 := P2.out.cell3
  have fP20 := P2.out.free 0
  have fP21 := P2.out.free 1
  have fP22 := P2.out.free 2
  have fP23 := P2.out.free 3
  go_wp2
  refine ret_rate rfl (w.heap.size + 1 + 1) _ _ _ _ rfl (P2.out.put _ _ _ _) rfl ?_
  exact ⟨_, rfl, TR.out.keep (P2.out.keeps (by simp) (by simp) (by simp) (by simp) _ _ _ _), below_put4 HB.out (by omega) _ _ _ _⟩

theorem dn_neg (q : Rat) : dn (-q) = dn q := by simp [dn]

set_option maxRecDepth 100000 in
set_option maxHeartbeats 4000000 in
theorem rtneg_any (v1 : Value) (x : Rat) (w : World) (h1 : RatAt w v1 x) :
    Calls Try.prog 20 #[v1] w fun e w' => ∃ v', e = .returned v' ∧ RatAt w' v' (-x) ∧ Below w.heap.size w w' := by
  obtain ⟨s1, m1, n1, c1, t1, o1, p1, d1, rfl, i1⟩ := h1.cells
  have I1 := hide i1
  clear h1 i1
  have P0 := Box4.new w (.bool s1) (.slice m1 n1 c1) (.bool t1) (.slice o1 p1 d1)
  replace P0 := P0.step (below_alloc _ (.cells #[.bool false, .slice none 0 0, .bool false, .slice none 0 0] 27))
  replace P0 := hide P0
  have P1 := Box4.new (w.alloc (.cells #[.bool s1, .slice m1 n1 c1, .bool t1, .slice o1 p1 d1] 27)) (.bool false) (.slice none 0 0) (.bool false) (.slice none 0 0)
  simp only [World.size_alloc] at P1
  replace P1 := hide P1
  have HB := below_alloc w (.cells #[.bool s1, .slice m1 n1 c1, .bool t1, .slice o1 p1 d1] 27)
  replace HB := HB.trans ((below_alloc _ (.cells #[.bool false, .slice none 0 0, .bool false, .slice none 0 0] 27)).mono (by simp only [World.size_alloc]; omega))
  replace I1 := hide (I1.out.below HB)
  replace HB := hide HB
  go_enter Try.func20, Try.ntmps20
  go_wp2_with fail
  generalize ((w.alloc (.cells #[.bool s1, .slice m1 n1 c1, .bool t1, .slice o1 p1 d1] 27)).alloc (.cells #[.bool false, .slice none 0 0, .bool false, .slice none 0 0] 27)) = w0 at *
  have LTS : Hid True := hide trivial
  replace P1 := hide P1.out.drew
  refine wp_calm (fun w' => Below w.heap.size w w' ∧ Box4 w' w.heap.size (.bool s1) (.slice m1 n1 c1) (.bool t1) (.slice o1 p1 d1) ∧ RatAt w' (.agg #[.bool s1, .slice m1 n1 c1, .bool t1, .slice o1 p1 d1]) x) (fun _ => true) 7 #[false, false, false, false, false, false, false] (by kernel_rfl) rfl rfl ?_
  have HF := hide (And.intro (HB.out.drew) (And.intro (P0.out.drew) (I1.out.drew)))
  generalize w0.drew = w0d at *
  refine Calm.take (i := 0) (v := ?_) (a' := ?_) (l' := #[true, false, false, false, false, false, false]) (d := some 3) rfl (by kernel_rfl) (by kernel_rfl) (by kernel_rfl) (by kernel_rfl) (fun _ _ _ h => h) HF.out rfl ?_ rfl rfl ?_ ?_
  rotate_left
  · intro w' hF; clear hF; go_simp; try rfl
  rotate_left
  · simp only [Act.put]; exact rfl
  refine Calm.take (i := 1) (v := ?_) (a' := ?_) (l' := #[true, true, false, false, false, false, false]) (d := some 4) rfl (by kernel_rfl) (by kernel_rfl) (by kernel_rfl) (by kernel_rfl) (fun _ _ _ h => h) HF.out rfl ?_ rfl rfl ?_ ?_
  rotate_left
  · intro w' hF; have f10 := hF.2.1.cell0; have f11 := hF.2.1.cell1; have f12 := hF.2.1.cell2; have f13 := hF.2.1.cell3; clear hF; go_simp; try rfl
  rotate_left
  · simp only [Act.put]; exact rfl
  refine Calm.take (i := 3) (v := ?_) (a' := ?_) (l' := #[true, true, false, true, false, false, false]) (d := some 6) rfl (by kernel_rfl) (by kernel_rfl) (by kernel_rfl) (by kernel_rfl) (fun _ _ _ h => h) HF.out rfl ?_ rfl rfl ?_ ?_
  rotate_left
  · intro w' hF; clear hF; go_simp; try rfl
  rotate_left
  · simp only [Act.put]; exact rfl
  refine Calm.take (i := 4) (v := ?_) (a' := ?_) (l' := #[true, true, false, true, true, false, false]) (d := some 7) rfl (by kernel_rfl) (by kernel_rfl) (by kernel_rfl) (by kernel_rfl) (fun _ _ _ h => h) HF.out rfl ?_ rfl rfl ?_ ?_
  rotate_left
  · intro w' hF; have f10 := hF.2.1.cell0; have f11 := hF.2.1.cell1; have f12 := hF.2.1.cell2; have f13 := hF.2.1.cell3; clear hF; go_simp; try rfl
  rotate_left
  · simp only [Act.put]; exact rfl
  refine Calm.one (i := 2) (l' := #[true, true, true, true, true, false, false]) (by kernel_rfl) rfl rfl rfl fun K hK => ?_
  go_simp
  refine (ineg_any _ x.num _ HF.out.2.2.num).mono ?_
  rintro e u1 ⟨v, rfl, n, hb⟩
  obtain ⟨s9, m9, n9, c9, rfl, n⟩ := n.cells
  replace P1 := hide (P1.out.step (hb))
  have HF' := hide (And.intro (HF.out.1.trans ((hb).mono HF.out.1.size)) (And.intro (HF.out.2.1.step (hb)) (HF.out.2.2.below (hb))))
  have T1 := hide (n)
  refine hK _ _ (fun _ => HF'.out) ?_
  clear hK K HF hb n
  have HF := hide HF'.out
  clear HF'
  refine Calm.take (i := 5) (v := ?_) (a' := ?_) (l' := #[true, true, true, true, true, true, false]) (d := some 8) rfl (by kernel_rfl) (by kernel_rfl) (by kernel_rfl) (by kernel_rfl) (fun _ _ _ h => h) HF.out rfl ?_ rfl rfl ?_ ?_
  rotate_left
  · intro w' hF; clear hF; go_simp; try rfl
  rotate_left
  · simp only [Act.put]; exact rfl
  refine Calm.one (i := 6) (l' := #[true, true, true, true, true, true, true]) (by kernel_rfl) rfl rfl rfl fun K hK => ?_
  have hc0 := P1.out.cell0
  have hc1 := P1.out.cell1
  have hc2 := P1.out.cell2
  have hc3 := P1.out.cell3
  have hf0 := P1.out.free 0
  have hf1 := P1.out.free 1
  have hf2 := P1.out.free 2
  have hf3 := P1.out.free 3
  go_simp
  have HF' := hide (And.intro (below_put4 HF.out.1 (show w.heap.size ≤ (w.heap.size + 1) by have hx := LTS.out; omega) (.bool s9) (.slice m9 n9 c9) (.bool t1) (.slice o1 p1 d1)) (And.intro (HF.out.2.1.other4 (C := (w.heap.size + 1)) (by have hx := LTS.out; omega) (.bool s9) (.slice m9 n9 c9) (.bool t1) (.slice o1 p1 d1)) (HF.out.2.2.keep (P1.out.keeps (by simp) (by simp) (by simp) (by simp) (.bool s9) (.slice m9 n9 c9) (.bool t1) (.slice o1 p1 d1)))))
  replace T1 := hide (T1.out.keep (P1.out.keeps (by simp) (by simp) (by simp) (by simp) (.bool s9) (.slice m9 n9 c9) (.bool t1) (.slice o1 p1 d1)))
  replace P1 := hide (P1.out.put (.bool s9) (.slice m9 n9 c9) (.bool t1) (.slice o1 p1 d1))
  refine hK _ _ (fun _ => HF'.out) ?_
  clear hK K HF hc0 hf0 hc1 hf1 hc2 hf2 hc3 hf3
  have HF := hide HF'.out
  clear HF'
  generalize ((((u1.setCell ⟨(w.heap.size + 1), 0, none⟩ (.bool s9)).setCell ⟨(w.heap.size + 1), 1, none⟩ (.slice m9 n9 c9)).setCell ⟨(w.heap.size + 1), 2, none⟩ (.bool t1)).setCell ⟨(w.heap.size + 1), 3, none⟩ (.slice o1 p1 d1)) = u8 at *
  refine Calm.done (by kernel_rfl) ?_
  replace HB := hide HF.out.1
  replace P0 := hide HF.out.2.1
  replace I1 := hide HF.out.2.2
  clear HF
  go_wp2
  refine ret_rat rfl (w.heap.size + 1) _ _ _ _ rfl P1.out rfl ?_
  exact ⟨_, rfl, ⟨_, _, _, _, _, _, _, _, rfl, T1.out, by rw [dn_neg]; exact I1.out.dn⟩, HB.out⟩
end Go.Proofs.Ytgkibmigbjjnnaa
