/- swageref03's Sign, Same, IsWhole, Floor. -/
import Derived.Test.YtgkibmigbjjnnaaR3
import Derived.Deep.Cut
namespace Go.Proofs.Ytgkibmigbjjnnaa
open Go.RowKit

set_option maxRecDepth 100000 in
set_option maxHeartbeats 4000000 in
theorem r3whole_any (v1 : Value) (z : Int) (w : World) (h1 : RInt w v1 z) :
    Calls Try.prog 63 #[v1] w fun e w' => ∃ v', e = .returned v' ∧ RQ w' v' (z : Rat) ∧ Below w.heap.size w w' := by
  obtain ⟨s1, m1, n1, c1, rfl, i1⟩ := h1.cells
  have I1 := hide i1
  clear h1 i1
  have P0 := BoxR.new w (.bool s1) (.slice m1 n1 c1)
  replace P0 := P0.step (below_alloc _ (.cells #[.bool false, .slice none 0 0, .bool false, .slice none 0 0] 59))
  replace P0 := hide P0
  have P1 := BoxQ.new (w.alloc (.cells #[.bool s1, .slice m1 n1 c1] 57)) (.bool false) (.slice none 0 0) (.bool false) (.slice none 0 0)
  simp only [World.size_alloc] at P1
  replace P1 := hide P1
  have HB := below_alloc w (.cells #[.bool s1, .slice m1 n1 c1] 57)
  replace HB := HB.trans ((below_alloc _ (.cells #[.bool false, .slice none 0 0, .bool false, .slice none 0 0] 59)).mono (by simp only [World.size_alloc]; omega))
  replace I1 := hide (I1.out.below HB)
  replace HB := hide HB
  go_enter Try.func63, Try.ntmps63
  go_wp2_with fail
  generalize ((w.alloc (.cells #[.bool s1, .slice m1 n1 c1] 57)).alloc (.cells #[.bool false, .slice none 0 0, .bool false, .slice none 0 0] 59)) = w0 at *
  have LTS : Hid True := hide trivial
  replace P1 := hide P1.out.drew
  refine wp_calm (fun w' => Below w.heap.size w w' ∧ BoxR w' w.heap.size (.bool s1) (.slice m1 n1 c1) ∧ RInt w' (.agg #[.bool s1, .slice m1 n1 c1]) z) (fun _ => true) 4 #[false, false, false, false] (by kernel_rfl) rfl rfl ?_
  have HF := hide (And.intro (HB.out.drew) (And.intro (P0.out.drew) (I1.out.drew)))
  generalize w0.drew = w0d at *
  refine Calm.take (i := 0) (v := ?_) (a' := ?_) (l' := #[true, false, false, false]) (d := some 3) rfl (by kernel_rfl) (by kernel_rfl) (by kernel_rfl) (by kernel_rfl) (fun _ _ _ h => h) HF.out rfl ?_ rfl rfl ?_ ?_
  rotate_left
  · intro w' hF; have f10 := hF.2.1.cell0; have f11 := hF.2.1.cell1; clear hF; go_simp; try rfl
  rotate_left
  · simp only [Act.put]; exact rfl
  refine Calm.one (i := 1) (l' := #[true, true, false, false]) (by kernel_rfl) rfl rfl rfl fun K hK => ?_
  go_simp
  refine (rof_any 1 _ (by decide) (by decide)).mono ?_
  rintro e u1 ⟨v, rfl, n, hb⟩
  obtain ⟨s9, m9, n9, c9, rfl, n⟩ := n.cells
  replace P1 := hide (P1.out.step (hb))
  have HF' := hide (And.intro (HF.out.1.trans ((hb).mono HF.out.1.size)) (And.intro (HF.out.2.1.step (hb)) (HF.out.2.2.below (hb))))
  have T1 := hide (n)
  refine hK _ _ (fun _ => HF'.out) ?_
  clear hK K HF hb n
  have HF := hide HF'.out
  clear HF'
  refine Calm.take (i := 2) (v := ?_) (a' := ?_) (l' := #[true, true, true, false]) (d := some 5) rfl (by kernel_rfl) (by kernel_rfl) (by kernel_rfl) (by kernel_rfl) (fun _ _ _ h => h) HF.out rfl ?_ rfl rfl ?_ ?_
  rotate_left
  · intro w' hF; clear hF; go_simp; try rfl
  rotate_left
  · simp only [Act.put]; exact rfl
  refine Calm.one (i := 3) (l' := #[true, true, true, true]) (by kernel_rfl) rfl rfl rfl fun K hK => ?_
  have hc0 := P1.out.cell0
  have hc1 := P1.out.cell1
  have hc2 := P1.out.cell2
  have hc3 := P1.out.cell3
  have hf0 := P1.out.free 0
  have hf1 := P1.out.free 1
  have hf2 := P1.out.free 2
  have hf3 := P1.out.free 3
  go_simp
  have HF' := hide (And.intro (below_put4 HF.out.1 (show w.heap.size ≤ (w.heap.size + 1) by have hx := LTS.out; omega) (.bool s1) (.slice m1 n1 c1) (.bool s9) (.slice m9 n9 c9)) (And.intro (HF.out.2.1.other4 (C := (w.heap.size + 1)) (by have hx := LTS.out; omega) (.bool s1) (.slice m1 n1 c1) (.bool s9) (.slice m9 n9 c9)) (HF.out.2.2.keep (P1.out.keeps (by simp) (by simp) (by simp) (by simp) (.bool s1) (.slice m1 n1 c1) (.bool s9) (.slice m9 n9 c9)))))
  replace T1 := hide (T1.out.keep (P1.out.keeps (by simp) (by simp) (by simp) (by simp) (.bool s1) (.slice m1 n1 c1) (.bool s9) (.slice m9 n9 c9)))
  replace P1 := hide (P1.out.put (.bool s1) (.slice m1 n1 c1) (.bool s9) (.slice m9 n9 c9))
  refine hK _ _ (fun _ => HF'.out) ?_
  clear hK K HF hc0 hf0 hc1 hf1 hc2 hf2 hc3 hf3
  have HF := hide HF'.out
  clear HF'
  generalize ((((u1.setCell ⟨(w.heap.size + 1), 0, none⟩ (.bool s1)).setCell ⟨(w.heap.size + 1), 1, none⟩ (.slice m1 n1 c1)).setCell ⟨(w.heap.size + 1), 2, none⟩ (.bool s9)).setCell ⟨(w.heap.size + 1), 3, none⟩ (.slice m9 n9 c9)) = u8 at *
  refine Calm.done (by kernel_rfl) ?_
  replace HB := hide HF.out.1
  replace P0 := hide HF.out.2.1
  replace I1 := hide HF.out.2.2
  clear HF
  go_wp2
  refine ret_rq rfl (w.heap.size + 1) _ _ _ _ rfl P1.out rfl ?_
  exact ⟨_, rfl, ⟨_, _, _, _, _, _, _, _, rfl, I1.out, T1.out⟩, HB.out⟩

set_option maxRecDepth 100000 in
set_option maxHeartbeats 4000000 in
theorem r3zero_any (w : World) :
    Calls Try.prog 59 #[] w fun e w' => ∃ v', e = .returned v' ∧ RQ w' v' 0 ∧ Below w.heap.size w w' := by
  have P0 := BoxQ.new w (.bool false) (.slice none 0 0) (.bool false) (.slice none 0 0)
  replace P0 := hide P0
  have HB := below_alloc w (.cells #[.bool false, .slice none 0 0, .bool false, .slice none 0 0] 59)
  replace HB := hide HB
  go_enter Try.func59, Try.ntmps59
  go_wp2_with fail
  generalize (w.alloc (.cells #[.bool false, .slice none 0 0, .bool false, .slice none 0 0] 59)) = w0 at *
  refine (rof_any 0 _ (by decide) (by decide)).mono ?_
  rintro e u1 ⟨v, rfl, n, hb⟩
  replace P0 := hide (P0.out.step (hb))
  replace HB := hide (HB.out.trans ((hb).mono HB.out.size))
  have T1 := hide (n)
  clear hb n
  go_wp2_with fail
  refine (r3whole_any _ 0 _ T1.out).mono ?_
  rintro e u2 ⟨v, rfl, n, hb⟩
  obtain ⟨s9, m9, n9, c9, t9, o9, p9, d9, rfl, n⟩ := n.cells
  replace P0 := hide (P0.out.step (hb))
  replace HB := hide (HB.out.trans ((hb).mono HB.out.size))
  replace T1 := hide (T1.out.below (hb))
  have TR := hide (n)
  clear hb n
  have hP00 := P0.out.cell0
  have hP01 := P0.out.cell1
  have hP02 := P0.out.cell2
  have hP03 := P0.out.cell3
  have fP00 := P0.out.free 0
  have fP01 := P0.out.free 1
  have fP02 := P0.out.free 2
  have fP03 := P0.out.free 3
  go_wp2
  refine ret_rq rfl w.heap.size _ _ _ _ rfl (P0.out.put _ _ _ _) rfl ?_
  exact ⟨_, rfl, TR.out.keep (P0.out.keeps (by simp) (by simp) (by simp) (by simp) _ _ _ _), below_put4 HB.out (by omega) _ _ _ _⟩


theorem rq_terms {n d : Int} (hd : 0 < d) : n / (Int.gcd n d : Int) = (Rat.divInt n d).num ∧ d / (Int.gcd n d : Int) = ((Rat.divInt n d).den : Int) := by
  have h : com n d = (Int.gcd n d : Int) := if_neg (by omega)
  exact ⟨by rw [← h]; exact com_num (by omega), by rw [← h]; exact com_den (by omega)⟩
theorem divInt_negs (n d : Int) : Rat.divInt (-n) (-d) = Rat.divInt n d := by rw [Rat.divInt_neg', Int.neg_neg]
theorem gcd_sz {k : Nat} {n d : Int} (hd : 0 < d) (h : SzI k d) : SzI k (Int.gcd n d : Int) := h.dvd (Int.gcd_dvd_right ..) (by omega)

set_option maxRecDepth 100000 in
set_option maxHeartbeats 8000000 in
theorem r3make_any (v1 v2 : Value) (pn pd : Int) (w : World) (h1 : RInt w v1 pn) (h2 : RInt w v2 pd) (k1 k2 : Nat) (l1 : SzI k1 pn) (l2 : SzI k2 pd) (hk1 : 2 * k1 ≤ 10000000) (hk2 : 2 * k2 ≤ 10000000) (hd : pd ≠ 0) :
    Calls Try.prog 52 #[v1, v2] w fun e w' => ∃ v', e = .returned v' ∧ RQ w' v' (Rat.divInt pn pd) ∧ Below w.heap.size w w' := by
  have L1 := hide l1
  have L2 := hide l2
  have HK := hide (And.intro hk1 hk2)
  clear l1 l2 hk1 hk2
  obtain ⟨s1, m1, n1, c1, rfl, i1⟩ := h1.cells
  have I1 := hide i1
  clear h1 i1
  obtain ⟨s2, m2, n2, c2, rfl, i2⟩ := h2.cells
  have I2 := hide i2
  clear h2 i2
  have P0 := BoxR.new w (.bool s1) (.slice m1 n1 c1)
  replace P0 := P0.step (below_alloc _ (.cells #[.bool s2, .slice m2 n2 c2] 57))
  replace P0 := P0.step (below_alloc _ (.cells #[.bool false, .slice none 0 0, .bool false, .slice none 0 0] 59))
  replace P0 := hide P0
  have P1 := BoxR.new (w.alloc (.cells #[.bool s1, .slice m1 n1 c1] 57)) (.bool s2) (.slice m2 n2 c2)
  simp only [World.size_alloc] at P1
  replace P1 := P1.step (below_alloc _ (.cells #[.bool false, .slice none 0 0, .bool false, .slice none 0 0] 59))
  replace P1 := hide P1
  have P2 := BoxQ.new ((w.alloc (.cells #[.bool s1, .slice m1 n1 c1] 57)).alloc (.cells #[.bool s2, .slice m2 n2 c2] 57)) (.bool false) (.slice none 0 0) (.bool false) (.slice none 0 0)
  simp only [World.size_alloc] at P2
  replace P2 := hide P2
  have HB := below_alloc w (.cells #[.bool s1, .slice m1 n1 c1] 57)
  replace HB := HB.trans ((below_alloc _ (.cells #[.bool s2, .slice m2 n2 c2] 57)).mono (by simp only [World.size_alloc]; omega))
  replace HB := HB.trans ((below_alloc _ (.cells #[.bool false, .slice none 0 0, .bool false, .slice none 0 0] 59)).mono (by simp only [World.size_alloc]; omega))
  replace I1 := hide (I1.out.below HB)
  replace I2 := hide (I2.out.below HB)
  replace HB := hide HB
  go_enter Try.func52, Try.ntmps52
  go_wp2_with fail
  generalize (((w.alloc (.cells #[.bool s1, .slice m1 n1 c1] 57)).alloc (.cells #[.bool s2, .slice m2 n2 c2] 57)).alloc (.cells #[.bool false, .slice none 0 0, .bool false, .slice none 0 0] 59)) = w0 at *
  have LTS : Hid True := hide trivial
  refine (rsign_any _ pd _ I2.out).mono ?_
  rintro e u1 ⟨he, hb⟩
  replace I1 := hide (I1.out.below (hb))
  replace I2 := hide (I2.out.below (hb))
  replace P0 := hide (P0.out.step (hb))
  replace P1 := hide (P1.out.step (hb))
  replace P2 := hide (P2.out.step (hb))
  replace HB := hide (HB.out.trans ((hb).mono HB.out.size))
  clear hb
  by_cases hs : pd < 0
  · have HS := hide hs
    rw [show sgnI pd = -1 from if_pos hs] at he
    subst he
    clear hs
    go_wp2_with fail
    refine wp_calm (fun w' => Below w.heap.size w w' ∧ BoxR w' w.heap.size (.bool s1) (.slice m1 n1 c1) ∧ BoxR w' (w.heap.size + 1) (.bool s2) (.slice m2 n2 c2) ∧ RInt w' (.agg #[.bool s1, .slice m1 n1 c1]) pn ∧ RInt w' (.agg #[.bool s2, .slice m2 n2 c2]) pd ∧ BoxQ w' (w.heap.size + 1 + 1) (.bool false) (.slice none 0 0) (.bool false) (.slice none 0 0)) (fun j => j != 4 && j != 5) 6 #[false, false, false, false, false, false] (by kernel_rfl) rfl rfl ?_
    have HF := hide (And.intro (HB.out.drew) (And.intro (P0.out.drew) (And.intro (P1.out.drew) (And.intro (I1.out.drew) (And.intro (I2.out.drew) (P2.out.drew))))))
    generalize u1.drew = u1d at *
    refine Calm.takeL 6 (i := 0) (v := ?_) (a' := ?_) (l' := #[true, false, false, false, false, false]) (d := some 13) (by kernel_rfl) rfl (by kernel_rfl) (by kernel_rfl) (by kernel_rfl) (by kernel_rfl) (fun _ _ _ h => h) HF.out rfl ?_ rfl rfl ?_ ?_
    rotate_left
    · intro w' hF; have f10 := hF.2.1.cell0; have f11 := hF.2.1.cell1; have f20 := hF.2.2.1.cell0; have f21 := hF.2.2.1.cell1; have f50 := hF.2.2.2.2.2.cell0; have f51 := hF.2.2.2.2.2.cell1; have f52 := hF.2.2.2.2.2.cell2; have f53 := hF.2.2.2.2.2.cell3; clear hF; go_simp; try rfl
    rotate_left
    · simp only [Act.put]; exact rfl
    refine Calm.takeL 6 (i := 2) (v := ?_) (a' := ?_) (l' := #[true, false, true, false, false, false]) (d := some 15) (by kernel_rfl) rfl (by kernel_rfl) (by kernel_rfl) (by kernel_rfl) (by kernel_rfl) (fun _ _ _ h => h) HF.out rfl ?_ rfl rfl ?_ ?_
    rotate_left
    · intro w' hF; have f10 := hF.2.1.cell0; have f11 := hF.2.1.cell1; have f20 := hF.2.2.1.cell0; have f21 := hF.2.2.1.cell1; have f50 := hF.2.2.2.2.2.cell0; have f51 := hF.2.2.2.2.2.cell1; have f52 := hF.2.2.2.2.2.cell2; have f53 := hF.2.2.2.2.2.cell3; clear hF; go_simp; try rfl
    rotate_left
    · simp only [Act.put]; exact rfl
    refine Calm.one (i := 1) (l' := #[true, true, true, false, false, false]) (by kernel_rfl) rfl rfl rfl fun K hK => ?_
    go_simp
    refine (rneg_any _ pn _ HF.out.2.2.2.1).mono ?_
    rintro e u2 ⟨v, rfl, n, hb⟩
    obtain ⟨s3, m3, n3, c3, rfl, n⟩ := n.cells
    have HF' := hide (And.intro (HF.out.1.trans ((hb).mono HF.out.1.size)) (And.intro (HF.out.2.1.step (hb)) (And.intro (HF.out.2.2.1.step (hb)) (And.intro (HF.out.2.2.2.1.below (hb)) (And.intro (HF.out.2.2.2.2.1.below (hb)) (HF.out.2.2.2.2.2.step (hb)))))))
    have T1 := hide (n)
    refine hK _ _ (fun _ => HF'.out) ?_
    clear hK K HF hb n
    have HF := hide HF'.out
    clear HF'
    refine Calm.one (i := 3) (l' := #[true, true, true, true, false, false]) (by kernel_rfl) rfl rfl rfl fun K hK => ?_
    go_simp
    refine (rneg_any _ pd _ HF.out.2.2.2.2.1).mono ?_
    rintro e u3 ⟨v, rfl, n, hb⟩
    obtain ⟨s4, m4, n4, c4, rfl, n⟩ := n.cells
    replace T1 := hide (T1.out.below (hb))
    have HF' := hide (And.intro (HF.out.1.trans ((hb).mono HF.out.1.size)) (And.intro (HF.out.2.1.step (hb)) (And.intro (HF.out.2.2.1.step (hb)) (And.intro (HF.out.2.2.2.1.below (hb)) (And.intro (HF.out.2.2.2.2.1.below (hb)) (HF.out.2.2.2.2.2.step (hb)))))))
    have T2 := hide (n)
    refine hK _ _ (fun _ => HF'.out) ?_
    clear hK K HF hb n
    have HF := hide HF'.out
    clear HF'
    refine Calm.one (i := 4) (l' := #[true, true, true, true, true, false]) (by kernel_rfl) rfl rfl rfl fun K hK => ?_
    have hc0 := HF.out.2.1.cell0
    have hc1 := HF.out.2.1.cell1
    have hf0 := HF.out.2.1.free 0
    have hf1 := HF.out.2.1.free 1
    go_simp
    clear hc0 hc1 hf0 hf1
    refine hK _ _ (fun h => absurd h (by decide)) ?_
    clear hK K
    refine Calm.one (i := 5) (l' := #[true, true, true, true, true, true]) (by kernel_rfl) rfl rfl rfl fun K hK => ?_
    have Q1 := hide (HF.out.2.2.1.other (C := w.heap.size) (by omega) (.bool s3) (.slice m3 n3 c3))
    have hc0 := Q1.out.cell0
    have hc1 := Q1.out.cell1
    have hf0 := Q1.out.free 0
    have hf1 := Q1.out.free 1
    go_simp
    clear hc0 hc1 hf0 hf1
    refine hK _ _ (fun h => absurd h (by decide)) ?_
    clear hK K
    refine Calm.done (by kernel_rfl) ?_
    have K1 := hide (HF.out.2.1.keeps (by simp) (by simp) (.bool s3) (.slice m3 n3 c3))
    have K2 := hide (Q1.out.keeps (by simp) (by simp) (.bool s4) (.slice m4 n4 c4))
    have HB' := hide (below_put (below_put HF.out.1 (show w.heap.size ≤ w.heap.size from Nat.le_refl _) (.bool s3) (.slice m3 n3 c3)) (show w.heap.size ≤ w.heap.size + 1 by omega) (.bool s4) (.slice m4 n4 c4))
    have P0' := hide ((HF.out.2.1.put (.bool s3) (.slice m3 n3 c3)).other (C := w.heap.size + 1) (by omega) (.bool s4) (.slice m4 n4 c4))
    have P1' := hide (Q1.out.put (.bool s4) (.slice m4 n4 c4))
    have P2' := hide ((HF.out.2.2.2.2.2.other (C := w.heap.size) (by omega) (.bool s3) (.slice m3 n3 c3)).other (C := w.heap.size + 1) (by omega) (.bool s4) (.slice m4 n4 c4))
    have I1' := hide ((T1.out.keep K1.out).keep K2.out)
    have I2' := hide ((T2.out.keep K1.out).keep K2.out)
    clear K1 K2 Q1 T1 T2 HF HB P0 P1 P2 I1 I2
    have HB := hide HB'.out
    have P0 := hide P0'.out
    have P1 := hide P1'.out
    have P2 := hide P2'.out
    have I1 := hide I1'.out
    have I2 := hide I2'.out
    clear HB' P0' P1' P2' I1' I2'
    generalize (((u3.setCell ⟨w.heap.size, 0, none⟩ (.bool s3)).setCell ⟨w.heap.size, 1, none⟩ (.slice m3 n3 c3)).setCell ⟨w.heap.size + 1, 0, none⟩ (.bool s4)).setCell ⟨w.heap.size + 1, 1, none⟩ (.slice m4 n4 c4) = u4 at *
    have LN := hide L1.out.neg
    have LD := hide L2.out.neg
    have HP : Hid (0 < -pd) := hide (by have := HS.out; omega)
    have TN : Hid ((-pn) / (Int.gcd (-pn) (-pd) : Int) = (Rat.divInt pn pd).num) := hide (by rw [← divInt_negs pn pd]; exact (rq_terms HP.out).1)
    have TD : Hid ((-pd) / (Int.gcd (-pn) (-pd) : Int) = ((Rat.divInt pn pd).den : Int)) := hide (by rw [← divInt_negs pn pd]; exact (rq_terms HP.out).2)
    have SG := hide (gcd_sz (n := (-pn)) HP.out LD.out)
    have GZ : Hid ((Int.gcd (-pn) (-pd) : Int) ≠ 0) := hide (gcd_ne (by have := HP.out; omega))
    have hP00 := P0.out.cell0
    have hP01 := P0.out.cell1
    have hP10 := P1.out.cell0
    have hP11 := P1.out.cell1
    go_wp2_with fail
    refine (rgcd_any _ _ (-pn) (-pd) _ I1.out I2.out (SzI.d7 LN.out HK.out.1) (SzI.d7 LD.out HK.out.2)).mono ?_
    rintro e u5 ⟨v, rfl, k, hb⟩
    obtain ⟨s5, m5, n5, c5, rfl, k⟩ := k.cells
    clear hP00 hP01
    clear hP10 hP11
    replace I1 := hide (I1.out.below (hb))
    replace I2 := hide (I2.out.below (hb))
    replace P0 := hide (P0.out.step (hb))
    replace P1 := hide (P1.out.step (hb))
    replace P2 := hide (P2.out.step (hb))
    replace HB := hide (HB.out.trans ((hb).mono HB.out.size))
    have I3 := hide (k)
    clear hb k
    have hP00 := P0.out.cell0
    have hP01 := P0.out.cell1
    have hlt := P0.out.lt
    go_wp2_with fail
    clear hlt
    clear hP00 hP01
    have al := below_alloc u5 (.cells #[.bool s5, .slice m5 n5 c5] 57)
    replace I1 := hide (I1.out.below (al))
    replace I2 := hide (I2.out.below (al))
    replace P0 := hide (P0.out.step (al))
    replace P1 := hide (P1.out.step (al))
    replace P2 := hide (P2.out.step (al))
    replace HB := hide (HB.out.trans ((al).mono HB.out.size))
    replace I3 := hide (I3.out.below (al))
    have P3 := hide (BoxR.new u5 (.bool s5) (.slice m5 n5 c5))
    clear al
    generalize u5.alloc (.cells #[.bool s5, .slice m5 n5 c5] 57) = u5a at *
    generalize u5.heap.size = g3 at *
    refine (rover_any _ _ (-pn) (Int.gcd (-pn) (-pd) : Int) _ I1.out I3.out (SzI.d7 LN.out HK.out.1) (SzI.d7 SG.out HK.out.2) GZ.out).mono ?_
    rintro e u6 ⟨v, z, b, rfl, k, hz, hb⟩
    obtain ⟨rfl, rfl⟩ : z = (-pn) / (Int.gcd (-pn) (-pd) : Int) ∧ b = true := by
      rcases hz with hz | hz
      · exact absurd (Int.emod_eq_zero_of_dvd (Int.gcd_dvd_left ..)) hz.1
      · exact hz.2
    clear hz
    obtain ⟨s6, m6, n6, c6, rfl, k⟩ := k.cells
    replace I1 := hide (I1.out.below (hb))
    replace I2 := hide (I2.out.below (hb))
    replace P0 := hide (P0.out.step (hb))
    replace P1 := hide (P1.out.step (hb))
    replace P2 := hide (P2.out.step (hb))
    replace HB := hide (HB.out.trans ((hb).mono HB.out.size))
    replace I3 := hide (I3.out.below (hb))
    replace P3 := hide (P3.out.step (hb))
    have I4 := hide k
    clear k hb
    have hP10 := P1.out.cell0
    have hP11 := P1.out.cell1
    have hP30 := P3.out.cell0
    have hP31 := P3.out.cell1
    have hlt := P1.out.lt
    have hlt' := P3.out.lt
    go_wp2_with fail
    clear hlt hlt'
    clear hP10 hP11
    clear hP30 hP31
    have al := below_alloc u6 (.cells #[.bool s6, .slice m6 n6 c6] 57)
    replace I1 := hide (I1.out.below (al))
    replace I2 := hide (I2.out.below (al))
    replace P0 := hide (P0.out.step (al))
    replace P1 := hide (P1.out.step (al))
    replace P2 := hide (P2.out.step (al))
    replace HB := hide (HB.out.trans ((al).mono HB.out.size))
    replace I3 := hide (I3.out.below (al))
    replace P3 := hide (P3.out.step (al))
    replace I4 := hide (I4.out.below (al))
    have P4 := hide (BoxR.new u6 (.bool s6) (.slice m6 n6 c6))
    clear al
    generalize u6.alloc (.cells #[.bool s6, .slice m6 n6 c6] 57) = u6a at *
    generalize u6.heap.size = g4 at *
    refine (rover_any _ _ (-pd) (Int.gcd (-pn) (-pd) : Int) _ I2.out I3.out (SzI.d7 LD.out HK.out.2) (SzI.d7 SG.out HK.out.2) GZ.out).mono ?_
    rintro e u7 ⟨v, z, b, rfl, k, hz, hb⟩
    obtain ⟨rfl, rfl⟩ : z = (-pd) / (Int.gcd (-pn) (-pd) : Int) ∧ b = true := by
      rcases hz with hz | hz
      · exact absurd (Int.emod_eq_zero_of_dvd (Int.gcd_dvd_right ..)) hz.1
      · exact hz.2
    clear hz
    obtain ⟨s7, m7, n7, c7, rfl, k⟩ := k.cells
    replace I1 := hide (I1.out.below (hb))
    replace I2 := hide (I2.out.below (hb))
    replace P0 := hide (P0.out.step (hb))
    replace P1 := hide (P1.out.step (hb))
    replace P2 := hide (P2.out.step (hb))
    replace HB := hide (HB.out.trans ((hb).mono HB.out.size))
    replace I3 := hide (I3.out.below (hb))
    replace P3 := hide (P3.out.step (hb))
    replace I4 := hide (I4.out.below (hb))
    replace P4 := hide (P4.out.step (hb))
    have I5 := hide k
    clear k hb
    go_upto_region 6 with fail
    have al := below_alloc u7 (.cells #[.bool s7, .slice m7 n7 c7] 57)
    replace I1 := hide (I1.out.below (al))
    replace I2 := hide (I2.out.below (al))
    replace P0 := hide (P0.out.step (al))
    replace P1 := hide (P1.out.step (al))
    replace P2 := hide (P2.out.step (al))
    replace HB := hide (HB.out.trans ((al).mono HB.out.size))
    replace I3 := hide (I3.out.below (al))
    replace P3 := hide (P3.out.step (al))
    replace I4 := hide (I4.out.below (al))
    replace P4 := hide (P4.out.step (al))
    replace I5 := hide (I5.out.below (al))
    have P5 := hide (BoxR.new u7 (.bool s7) (.slice m7 n7 c7))
    clear al
    generalize u7.alloc (.cells #[.bool s7, .slice m7 n7 c7] 57) = u7a at *
    generalize u7.heap.size = g5 at *
    have hP40 := P4.out.cell0
    have hP41 := P4.out.cell1
    have hP50 := P5.out.cell0
    have hP51 := P5.out.cell1
    have hP20 := P2.out.cell0
    have hP21 := P2.out.cell1
    have hP22 := P2.out.cell2
    have hP23 := P2.out.cell3
    have fP20 := P2.out.free 0
    have fP21 := P2.out.free 1
    have fP22 := P2.out.free 2
    have fP23 := P2.out.free 3
    go_wp2
    refine ret_rq rfl (w.heap.size + 1 + 1) _ _ _ _ rfl (P2.out.put _ _ _ _) rfl ?_
    exact ⟨_, rfl, ⟨_, _, _, _, _, _, _, _, rfl, TN.out ▸ I4.out.keep (P2.out.keeps (by simp) (by simp) (by simp) (by simp) _ _ _ _), TD.out ▸ I5.out.keep (P2.out.keeps (by simp) (by simp) (by simp) (by simp) _ _ _ _)⟩, below_put4 HB.out (by omega) _ _ _ _⟩
  · have HS := hide hs
    have SG : ¬ sgnI pd < 0 := by unfold sgnI; rw [if_neg hs]; split <;> omega
    generalize sgnI pd = sd at *
    subst he
    clear hs
    have hP00 := P0.out.cell0
    have hP01 := P0.out.cell1
    have hP10 := P1.out.cell0
    have hP11 := P1.out.cell1
    go_wp2_with fail
    clear hP00 hP01
    clear hP10 hP11
    clear SG
    have LN := hide L1.out
    have LD := hide L2.out
    have HP : Hid (0 < pd) := hide (by have := HS.out; omega)
    have TN : Hid (pn / (Int.gcd pn pd : Int) = (Rat.divInt pn pd).num) := hide (by exact (rq_terms HP.out).1)
    have TD : Hid (pd / (Int.gcd pn pd : Int) = ((Rat.divInt pn pd).den : Int)) := hide (by exact (rq_terms HP.out).2)
    have SG := hide (gcd_sz (n := pn) HP.out LD.out)
    have GZ : Hid ((Int.gcd pn pd : Int) ≠ 0) := hide (gcd_ne (by have := HP.out; omega))
    refine (rgcd_any _ _ pn pd _ I1.out I2.out (SzI.d7 LN.out HK.out.1) (SzI.d7 LD.out HK.out.2)).mono ?_
    rintro e u5 ⟨v, rfl, k, hb⟩
    obtain ⟨s5, m5, n5, c5, rfl, k⟩ := k.cells
    replace I1 := hide (I1.out.below (hb))
    replace I2 := hide (I2.out.below (hb))
    replace P0 := hide (P0.out.step (hb))
    replace P1 := hide (P1.out.step (hb))
    replace P2 := hide (P2.out.step (hb))
    replace HB := hide (HB.out.trans ((hb).mono HB.out.size))
    have I3 := hide (k)
    clear hb k
    have hP00 := P0.out.cell0
    have hP01 := P0.out.cell1
    have hlt := P0.out.lt
    go_wp2_with fail
    clear hlt
    clear hP00 hP01
    have al := below_alloc u5 (.cells #[.bool s5, .slice m5 n5 c5] 57)
    replace I1 := hide (I1.out.below (al))
    replace I2 := hide (I2.out.below (al))
    replace P0 := hide (P0.out.step (al))
    replace P1 := hide (P1.out.step (al))
    replace P2 := hide (P2.out.step (al))
    replace HB := hide (HB.out.trans ((al).mono HB.out.size))
    replace I3 := hide (I3.out.below (al))
    have P3 := hide (BoxR.new u5 (.bool s5) (.slice m5 n5 c5))
    clear al
    generalize u5.alloc (.cells #[.bool s5, .slice m5 n5 c5] 57) = u5a at *
    generalize u5.heap.size = g3 at *
    refine (rover_any _ _ pn (Int.gcd pn pd : Int) _ I1.out I3.out (SzI.d7 LN.out HK.out.1) (SzI.d7 SG.out HK.out.2) GZ.out).mono ?_
    rintro e u6 ⟨v, z, b, rfl, k, hz, hb⟩
    obtain ⟨rfl, rfl⟩ : z = pn / (Int.gcd pn pd : Int) ∧ b = true := by
      rcases hz with hz | hz
      · exact absurd (Int.emod_eq_zero_of_dvd (Int.gcd_dvd_left ..)) hz.1
      · exact hz.2
    clear hz
    obtain ⟨s6, m6, n6, c6, rfl, k⟩ := k.cells
    replace I1 := hide (I1.out.below (hb))
    replace I2 := hide (I2.out.below (hb))
    replace P0 := hide (P0.out.step (hb))
    replace P1 := hide (P1.out.step (hb))
    replace P2 := hide (P2.out.step (hb))
    replace HB := hide (HB.out.trans ((hb).mono HB.out.size))
    replace I3 := hide (I3.out.below (hb))
    replace P3 := hide (P3.out.step (hb))
    have I4 := hide k
    clear k hb
    have hP10 := P1.out.cell0
    have hP11 := P1.out.cell1
    have hP30 := P3.out.cell0
    have hP31 := P3.out.cell1
    have hlt := P1.out.lt
    have hlt' := P3.out.lt
    go_wp2_with fail
    clear hlt hlt'
    clear hP10 hP11
    clear hP30 hP31
    have al := below_alloc u6 (.cells #[.bool s6, .slice m6 n6 c6] 57)
    replace I1 := hide (I1.out.below (al))
    replace I2 := hide (I2.out.below (al))
    replace P0 := hide (P0.out.step (al))
    replace P1 := hide (P1.out.step (al))
    replace P2 := hide (P2.out.step (al))
    replace HB := hide (HB.out.trans ((al).mono HB.out.size))
    replace I3 := hide (I3.out.below (al))
    replace P3 := hide (P3.out.step (al))
    replace I4 := hide (I4.out.below (al))
    have P4 := hide (BoxR.new u6 (.bool s6) (.slice m6 n6 c6))
    clear al
    generalize u6.alloc (.cells #[.bool s6, .slice m6 n6 c6] 57) = u6a at *
    generalize u6.heap.size = g4 at *
    refine (rover_any _ _ pd (Int.gcd pn pd : Int) _ I2.out I3.out (SzI.d7 LD.out HK.out.2) (SzI.d7 SG.out HK.out.2) GZ.out).mono ?_
    rintro e u7 ⟨v, z, b, rfl, k, hz, hb⟩
    obtain ⟨rfl, rfl⟩ : z = pd / (Int.gcd pn pd : Int) ∧ b = true := by
      rcases hz with hz | hz
      · exact absurd (Int.emod_eq_zero_of_dvd (Int.gcd_dvd_right ..)) hz.1
      · exact hz.2
    clear hz
    obtain ⟨s7, m7, n7, c7, rfl, k⟩ := k.cells
    replace I1 := hide (I1.out.below (hb))
    replace I2 := hide (I2.out.below (hb))
    replace P0 := hide (P0.out.step (hb))
    replace P1 := hide (P1.out.step (hb))
    replace P2 := hide (P2.out.step (hb))
    replace HB := hide (HB.out.trans ((hb).mono HB.out.size))
    replace I3 := hide (I3.out.below (hb))
    replace P3 := hide (P3.out.step (hb))
    replace I4 := hide (I4.out.below (hb))
    replace P4 := hide (P4.out.step (hb))
    have I5 := hide k
    clear k hb
    go_upto_region 6 with fail
    have al := below_alloc u7 (.cells #[.bool s7, .slice m7 n7 c7] 57)
    replace I1 := hide (I1.out.below (al))
    replace I2 := hide (I2.out.below (al))
    replace P0 := hide (P0.out.step (al))
    replace P1 := hide (P1.out.step (al))
    replace P2 := hide (P2.out.step (al))
    replace HB := hide (HB.out.trans ((al).mono HB.out.size))
    replace I3 := hide (I3.out.below (al))
    replace P3 := hide (P3.out.step (al))
    replace I4 := hide (I4.out.below (al))
    replace P4 := hide (P4.out.step (al))
    replace I5 := hide (I5.out.below (al))
    have P5 := hide (BoxR.new u7 (.bool s7) (.slice m7 n7 c7))
    clear al
    generalize u7.alloc (.cells #[.bool s7, .slice m7 n7 c7] 57) = u7a at *
    generalize u7.heap.size = g5 at *
    have hP40 := P4.out.cell0
    have hP41 := P4.out.cell1
    have hP50 := P5.out.cell0
    have hP51 := P5.out.cell1
    have hP20 := P2.out.cell0
    have hP21 := P2.out.cell1
    have hP22 := P2.out.cell2
    have hP23 := P2.out.cell3
    have fP20 := P2.out.free 0
    have fP21 := P2.out.free 1
    have fP22 := P2.out.free 2
    have fP23 := P2.out.free 3
    go_wp2
    refine ret_rq rfl (w.heap.size + 1 + 1) _ _ _ _ rfl (P2.out.put _ _ _ _) rfl ?_
    exact ⟨_, rfl, ⟨_, _, _, _, _, _, _, _, rfl, TN.out ▸ I4.out.keep (P2.out.keeps (by simp) (by simp) (by simp) (by simp) _ _ _ _), TD.out ▸ I5.out.keep (P2.out.keeps (by simp) (by simp) (by simp) (by simp) _ _ _ _)⟩, below_put4 HB.out (by omega) _ _ _ _⟩

end Go.Proofs.Ytgkibmigbjjnnaa

namespace Go.Proofs.Ytgkibmigbjjnnaa
open Go.RowKit

end Go.Proofs.Ytgkibmigbjjnnaa
