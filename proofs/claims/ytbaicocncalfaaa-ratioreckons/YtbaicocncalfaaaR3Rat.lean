/- swagelaw03's rat. -/
import Derived.Test.YtbaicocncalfaaaR3Law
import Derived.Deep.Cut
namespace Go.Proofs.Ytbaicocncalfaaa
open Go.RowKit

theorem ret_rats {fn : Func} {R : Ending → World → Prop} {a : Act} {w : World} {p0 p1 k : Tmp} (h : fn.results = #[.cell p0 34, .cell p1 41, .tmp k]) (g0 g1 : Nat) (x00 x01 x02 x03 x10 x11 x12 x13 : Value) (b : Bool)
    (hp0 : a.tmps.getD p0 undef = .pointer (some ⟨g0, 0, none⟩)) (hg0 : Box4 w g0 x00 x01 x02 x03) (hp1 : a.tmps.getD p1 undef = .pointer (some ⟨g1, 0, none⟩)) (hg1 : BoxQ w g1 x10 x11 x12 x13) (hk : a.tmps.getD k undef = .bool b) (hd : a.defers = []) (hR : R (.returned (.tuple #[.agg #[x00, x01, x02, x03], .agg #[x10, x11, x12, x13], .bool b])) w) : bodyPost Try.prog fn R .ret a w := by
  refine bodyPost_ret ?_ hd hR
  have hp0' : a.tmps[p0]?.getD undef = .pointer (some ⟨g0, 0, none⟩) := by simpa using hp0
  have hp1' : a.tmps[p1]?.getD undef = .pointer (some ⟨g1, 0, none⟩) := by simpa using hp1
  have hk' : a.tmps[k]?.getD undef = .bool b := by simpa using hk
  simp [results, h, hp0', hp1', hk', asAddr, run_loadVar_row w g0 34 34 #[x00, x01, x02, x03] (0, 0) _ hg0 Try.underlying34 rfl Try.infoRat, run_loadVar_row w g1 41 41 #[x10, x11, x12, x13] (0, 0) _ hg1 Try.underlying41 rfl Try.infoQ]

/-- a fraction of the program, one of the document: the same, if it is said so -/
def Rat3 (e : Ending) (w : World) : Prop := ∃ s m n c s' m' n' c' t o p d t' o' p' d' ok, e = .returned (.tuple #[.agg #[.bool s, .slice m n c, .bool s', .slice m' n' c'], .agg #[.bool t, .slice o p d, .bool t', .slice o' p' d'], .bool ok]) ∧ (ok = true → ∃ q, RatAt w (.agg #[.bool s, .slice m n c, .bool s', .slice m' n' c']) q ∧ RQ w (.agg #[.bool t, .slice o p d, .bool t', .slice o' p' d']) q ∧ SzR 65536 q)

set_option maxRecDepth 100000 in
set_option maxHeartbeats 8000000 in
theorem rat3_any (a b : ByteArray) (w : World) (la : a.size ≤ 300) (lb : b.size ≤ 300) :
    Calls Try.prog 26 #[.agg #[.string a, .string b]] w fun e w' => Rat3 e w' ∧ Below w.heap.size w w' := by
  have LA := hide la
  have LB := hide lb
  clear la lb
  have P0 := BoxF.new w (.string a) (.string b)
  replace P0 := P0.step (below_alloc _ (.cells #[.bool false, .slice none 0 0, .bool false, .slice none 0 0] 34))
  replace P0 := P0.step (below_alloc _ (.cells #[.bool false, .slice none 0 0, .bool false, .slice none 0 0] 41))
  replace P0 := hide P0
  have P1 := Box4.new (w.alloc (.cells #[.string a, .string b] 23)) (.bool false) (.slice none 0 0) (.bool false) (.slice none 0 0)
  simp only [World.size_alloc] at P1
  replace P1 := P1.step (below_alloc _ (.cells #[.bool false, .slice none 0 0, .bool false, .slice none 0 0] 41))
  replace P1 := hide P1
  have P2 := BoxQ.new ((w.alloc (.cells #[.string a, .string b] 23)).alloc (.cells #[.bool false, .slice none 0 0, .bool false, .slice none 0 0] 34)) (.bool false) (.slice none 0 0) (.bool false) (.slice none 0 0)
  simp only [World.size_alloc] at P2
  replace P2 := hide P2
  have HB := below_alloc w (.cells #[.string a, .string b] 23)
  replace HB := HB.trans ((below_alloc _ (.cells #[.bool false, .slice none 0 0, .bool false, .slice none 0 0] 34)).mono (by simp only [World.size_alloc]; omega))
  replace HB := HB.trans ((below_alloc _ (.cells #[.bool false, .slice none 0 0, .bool false, .slice none 0 0] 41)).mono (by simp only [World.size_alloc]; omega))
  replace HB := hide HB
  go_enter Try.func26, Try.ntmps26
  go_wp2_with fail
  generalize (((w.alloc (.cells #[.string a, .string b] 23)).alloc (.cells #[.bool false, .slice none 0 0, .bool false, .slice none 0 0] 34)).alloc (.cells #[.bool false, .slice none 0 0, .bool false, .slice none 0 0] 41)) = w0 at *
  refine (numbers_any a b _ LA.out LB.out).mono ?_
  rintro e u1 ⟨⟨v1, v2, v3, v4, z1, z2, z3, z4, ok, rfl, k1, k2, k3, k4, hk⟩, hb⟩
  have HK := hide hk
  obtain ⟨s1, m1, n1, c1, rfl, j1⟩ := k1.cells
  have I1 := hide j1
  obtain ⟨s2, m2, n2, c2, rfl, j2⟩ := k2.cells
  have I2 := hide j2
  obtain ⟨s3, m3, n3, c3, rfl, j3⟩ := k3.cells
  have I3 := hide j3
  obtain ⟨s4, m4, n4, c4, rfl, j4⟩ := k4.cells
  have I4 := hide j4
  replace P0 := hide (P0.out.step (hb))
  replace P1 := hide (P1.out.step (hb))
  replace P2 := hide (P2.out.step (hb))
  replace HB := hide (HB.out.trans ((hb).mono HB.out.size))
  clear hb hk k1 j1 k2 j2 k3 j3 k4 j4
  go_upto_region 2 with fail
  have hp := P2.out.lt
  have V1 := Box.new u1 (.bool s1) (.slice m1 n1 c1)
  replace V1 := V1.step (below_alloc _ (.cells #[.bool s2, .slice m2 n2 c2] 28))
  replace V1 := V1.step (below_alloc _ (.cells #[.bool s3, .slice m3 n3 c3] 30))
  replace V1 := V1.step (below_alloc _ (.cells #[.bool s4, .slice m4 n4 c4] 30))
  replace V1 := hide V1
  have V2 := Box.new (u1.alloc (.cells #[.bool s1, .slice m1 n1 c1] 28)) (.bool s2) (.slice m2 n2 c2)
  simp only [World.size_alloc] at V2
  replace V2 := V2.step (below_alloc _ (.cells #[.bool s3, .slice m3 n3 c3] 30))
  replace V2 := V2.step (below_alloc _ (.cells #[.bool s4, .slice m4 n4 c4] 30))
  replace V2 := hide V2
  have V3 := BoxR.new ((u1.alloc (.cells #[.bool s1, .slice m1 n1 c1] 28)).alloc (.cells #[.bool s2, .slice m2 n2 c2] 28)) (.bool s3) (.slice m3 n3 c3)
  simp only [World.size_alloc] at V3
  replace V3 := V3.step (below_alloc _ (.cells #[.bool s4, .slice m4 n4 c4] 30))
  replace V3 := hide V3
  have V4 := BoxR.new (((u1.alloc (.cells #[.bool s1, .slice m1 n1 c1] 28)).alloc (.cells #[.bool s2, .slice m2 n2 c2] 28)).alloc (.cells #[.bool s3, .slice m3 n3 c3] 30)) (.bool s4) (.slice m4 n4 c4)
  simp only [World.size_alloc] at V4
  replace V4 := hide V4
  have al := below_alloc u1 (.cells #[.bool s1, .slice m1 n1 c1] 28)
  replace al := al.trans ((below_alloc _ (.cells #[.bool s2, .slice m2 n2 c2] 28)).mono (by simp only [World.size_alloc]; omega))
  replace al := al.trans ((below_alloc _ (.cells #[.bool s3, .slice m3 n3 c3] 30)).mono (by simp only [World.size_alloc]; omega))
  replace al := al.trans ((below_alloc _ (.cells #[.bool s4, .slice m4 n4 c4] 30)).mono (by simp only [World.size_alloc]; omega))
  replace P0 := hide (P0.out.step (al))
  replace P1 := hide (P1.out.step (al))
  replace P2 := hide (P2.out.step (al))
  replace HB := hide (HB.out.trans ((al).mono HB.out.size))
  replace I1 := hide (I1.out.below (al))
  replace I2 := hide (I2.out.below (al))
  replace I3 := hide (I3.out.below (al))
  replace I4 := hide (I4.out.below (al))
  clear al
  generalize ((((u1.alloc (.cells #[.bool s1, .slice m1 n1 c1] 28)).alloc (.cells #[.bool s2, .slice m2 n2 c2] 28)).alloc (.cells #[.bool s3, .slice m3 n3 c3] 30)).alloc (.cells #[.bool s4, .slice m4 n4 c4] 30)) = u1a at *
  generalize u1.heap.size = g1 at *
  have LTS := hide hp
  clear hp
  cases ok with
  | false =>
    clear HK I1 I2 I3 I4
    have hP10 := P1.out.cell0
    have hP11 := P1.out.cell1
    have hP12 := P1.out.cell2
    have hP13 := P1.out.cell3
    have fP10 := P1.out.free 0
    have fP11 := P1.out.free 1
    have fP12 := P1.out.free 2
    have fP13 := P1.out.free 3
    have hP20 := P2.out.cell0
    have hP21 := P2.out.cell1
    have hP22 := P2.out.cell2
    have hP23 := P2.out.cell3
    have fP20 := P2.out.free 0
    have fP21 := P2.out.free 1
    have fP22 := P2.out.free 2
    have fP23 := P2.out.free 3
    go_wp2
    refine ret_rats rfl (w.heap.size + 1) (w.heap.size + 1 + 1) _ _ _ _ _ _ _ _ _ rfl ((P1.out.put _ _ _ _).other4 (by omega) _ _ _ _) rfl ((P2.out.other4 (by omega) _ _ _ _).put _ _ _ _) rfl rfl ?_
    exact ⟨⟨_, _, _, _, _, _, _, _, _, _, _, _, _, _, _, _, false, rfl, fun h => by cases h⟩, below_put4 (below_put4 HB.out (by omega) _ _ _ _) (by omega) _ _ _ _⟩
  | true =>
    obtain ⟨rfl, rfl, S3, S4⟩ := HK.out rfl
    have Z3 := hide S3
    have Z4 := hide S4
    clear HK S3 S4
    have hV40 := V4.out.cell0
    have hV41 := V4.out.cell1
    go_wp2_with fail
    clear hV40 hV41
    refine (rsign_any _ z2 _ I4.out).mono ?_
    rintro e u2 ⟨he, hb⟩
    replace P0 := hide (P0.out.step (hb))
    replace P1 := hide (P1.out.step (hb))
    replace P2 := hide (P2.out.step (hb))
    replace HB := hide (HB.out.trans ((hb).mono HB.out.size))
    replace I1 := hide (I1.out.below (hb))
    replace I2 := hide (I2.out.below (hb))
    replace I3 := hide (I3.out.below (hb))
    replace I4 := hide (I4.out.below (hb))
    replace V1 := hide (V1.out.step (hb))
    replace V2 := hide (V2.out.step (hb))
    replace V3 := hide (V3.out.step (hb))
    replace V4 := hide (V4.out.step (hb))
    clear hb
    by_cases hz : z2 = 0
    · subst hz
      subst he
      clear I1 I2 I3 I4 Z3 Z4
      have hP10 := P1.out.cell0
      have hP11 := P1.out.cell1
      have hP12 := P1.out.cell2
      have hP13 := P1.out.cell3
      have fP10 := P1.out.free 0
      have fP11 := P1.out.free 1
      have fP12 := P1.out.free 2
      have fP13 := P1.out.free 3
      have hP20 := P2.out.cell0
      have hP21 := P2.out.cell1
      have hP22 := P2.out.cell2
      have hP23 := P2.out.cell3
      have fP20 := P2.out.free 0
      have fP21 := P2.out.free 1
      have fP22 := P2.out.free 2
      have fP23 := P2.out.free 3
      go_wp2
      refine ret_rats rfl (w.heap.size + 1) (w.heap.size + 1 + 1) _ _ _ _ _ _ _ _ _ rfl ((P1.out.put _ _ _ _).other4 (by omega) _ _ _ _) rfl ((P2.out.other4 (by omega) _ _ _ _).put _ _ _ _) rfl rfl ?_
      exact ⟨⟨_, _, _, _, _, _, _, _, _, _, _, _, _, _, _, _, false, rfl, fun h => by cases h⟩, below_put4 (below_put4 HB.out (by omega) _ _ _ _) (by omega) _ _ _ _⟩
    · have HZ := hide hz
      have SG : (sgnI z2 == 0) = false := by rw [beq_eq_false_iff_ne]; unfold sgnI; split <;> (try split) <;> omega
      generalize sgnI z2 = sd at *
      subst he
      clear hz
      have hV10 := V1.out.cell0
      have hV11 := V1.out.cell1
      have hV20 := V2.out.cell0
      have hV21 := V2.out.cell1
      go_wp2_with fail
      clear SG
      clear hV10 hV11
      clear hV20 hV21
      refine (rtmake_any _ _ z1 z2 _ I1.out I2.out (SzI.len Z3.out (by decide)) (SzI.len Z4.out (by decide)) HZ.out).mono ?_
      rintro e u3 ⟨v, rfl, kx, hb⟩
      obtain ⟨s5, m5, n5, c5, t5, o5, p5, d5, rfl, ky⟩ := kx.cells
      replace P0 := hide (P0.out.step (hb))
      replace P1 := hide (P1.out.step (hb))
      replace P2 := hide (P2.out.step (hb))
      replace HB := hide (HB.out.trans ((hb).mono HB.out.size))
      replace I1 := hide (I1.out.below (hb))
      replace I2 := hide (I2.out.below (hb))
      replace I3 := hide (I3.out.below (hb))
      replace I4 := hide (I4.out.below (hb))
      replace V1 := hide (V1.out.step (hb))
      replace V2 := hide (V2.out.step (hb))
      replace V3 := hide (V3.out.step (hb))
      replace V4 := hide (V4.out.step (hb))
      have I5 := hide (ky)
      clear hb kx ky
      go_upto_region 5 with fail
      have hp := P2.out.lt
      have al := below_alloc u3 (.cells #[.bool s5, .slice m5 n5 c5, .bool t5, .slice o5 p5 d5] 34)
      replace P0 := hide (P0.out.step (al))
      replace P1 := hide (P1.out.step (al))
      replace P2 := hide (P2.out.step (al))
      replace HB := hide (HB.out.trans ((al).mono HB.out.size))
      replace I1 := hide (I1.out.below (al))
      replace I2 := hide (I2.out.below (al))
      replace I3 := hide (I3.out.below (al))
      replace I4 := hide (I4.out.below (al))
      replace V1 := hide (V1.out.step (al))
      replace V2 := hide (V2.out.step (al))
      replace V3 := hide (V3.out.step (al))
      replace V4 := hide (V4.out.step (al))
      replace I5 := hide (I5.out.below (al))
      have V5 := hide (Box4.new u3 (.bool s5) (.slice m5 n5 c5) (.bool t5) (.slice o5 p5 d5))
      clear al
      generalize u3.alloc (.cells #[.bool s5, .slice m5 n5 c5, .bool t5, .slice o5 p5 d5] 34) = u3a at *
      generalize u3.heap.size = g5 at *
      have LTS' := hide (And.intro LTS.out hp)
      clear LTS hp
      have LTS := hide LTS'.out
      clear LTS'
      replace P1 := hide P1.out.drew
      replace P2 := hide P2.out.drew
      refine wp_calm (fun w' => Below w.heap.size w w' ∧ Box4 w' g5 (.bool s5) (.slice m5 n5 c5) (.bool t5) (.slice o5 p5 d5) ∧ BoxR w' (g1 + 1 + 1) (.bool s3) (.slice m3 n3 c3) ∧ BoxR w' (g1 + 1 + 1 + 1) (.bool s4) (.slice m4 n4 c4) ∧ RInt w' (.agg #[.bool s3, .slice m3 n3 c3]) z1 ∧ RInt w' (.agg #[.bool s4, .slice m4 n4 c4]) z2 ∧ RatAt w' (.agg #[.bool s5, .slice m5 n5 c5, .bool t5, .slice o5 p5 d5]) (Rat.divInt z1 z2)) (fun _ => true) 7 #[false, false, false, false, false, false, false] (by kernel_rfl) rfl rfl ?_
      have HF := hide (And.intro (HB.out.drew) (And.intro (V5.out.drew) (And.intro (V3.out.drew) (And.intro (V4.out.drew) (And.intro (I3.out.drew) (And.intro (I4.out.drew) (I5.out.drew)))))))
      generalize u3a.drew = u3ad at *
      refine Calm.take (i := 0) (v := ?_) (a' := ?_) (l' := #[true, false, false, false, false, false, false]) (d := some 35) rfl (by kernel_rfl) (by kernel_rfl) (by kernel_rfl) (by kernel_rfl) (fun _ _ _ h => h) HF.out rfl ?_ rfl rfl ?_ ?_
      rotate_left
      · intro w' hF; have f10 := hF.2.1.cell0; have f11 := hF.2.1.cell1; have f12 := hF.2.1.cell2; have f13 := hF.2.1.cell3; have f20 := hF.2.2.1.cell0; have f21 := hF.2.2.1.cell1; have f30 := hF.2.2.2.1.cell0; have f31 := hF.2.2.2.1.cell1; clear hF; go_simp; try rfl
      rotate_left
      · simp only [Act.put]; exact rfl
      refine Calm.take (i := 1) (v := ?_) (a' := ?_) (l' := #[true, true, false, false, false, false, false]) (d := some 36) rfl (by kernel_rfl) (by kernel_rfl) (by kernel_rfl) (by kernel_rfl) (fun _ _ _ h => h) HF.out rfl ?_ rfl rfl ?_ ?_
      rotate_left
      · intro w' hF; have f10 := hF.2.1.cell0; have f11 := hF.2.1.cell1; have f12 := hF.2.1.cell2; have f13 := hF.2.1.cell3; have f20 := hF.2.2.1.cell0; have f21 := hF.2.2.1.cell1; have f30 := hF.2.2.2.1.cell0; have f31 := hF.2.2.2.1.cell1; clear hF; go_simp; try rfl
      rotate_left
      · simp only [Act.put]; exact rfl
      refine Calm.take (i := 2) (v := ?_) (a' := ?_) (l' := #[true, true, true, false, false, false, false]) (d := some 37) rfl (by kernel_rfl) (by kernel_rfl) (by kernel_rfl) (by kernel_rfl) (fun _ _ _ h => h) HF.out rfl ?_ rfl rfl ?_ ?_
      rotate_left
      · intro w' hF; have f10 := hF.2.1.cell0; have f11 := hF.2.1.cell1; have f12 := hF.2.1.cell2; have f13 := hF.2.1.cell3; have f20 := hF.2.2.1.cell0; have f21 := hF.2.2.1.cell1; have f30 := hF.2.2.2.1.cell0; have f31 := hF.2.2.2.1.cell1; clear hF; go_simp; try rfl
      rotate_left
      · simp only [Act.put]; exact rfl
      refine Calm.one (i := 3) (l' := #[true, true, true, true, false, false, false]) (by kernel_rfl) rfl rfl rfl fun K hK => ?_
      go_simp
      refine (r3make_any _ _ z1 z2 _ HF.out.2.2.2.2.1 HF.out.2.2.2.2.2.1 65536 65536 Z3.out Z4.out (by decide) (by decide) HZ.out).mono ?_
      rintro e u6 ⟨v, rfl, n, hb⟩
      obtain ⟨s6, m6, n6, c6, t6, o6, p6, d6, rfl, n⟩ := n.cells
      replace P1 := hide (P1.out.step (hb))
      replace P2 := hide (P2.out.step (hb))
      have HF' := hide (And.intro (HF.out.1.trans ((hb).mono HF.out.1.size)) (And.intro (HF.out.2.1.step (hb)) (And.intro (HF.out.2.2.1.step (hb)) (And.intro (HF.out.2.2.2.1.step (hb)) (And.intro (HF.out.2.2.2.2.1.below (hb)) (And.intro (HF.out.2.2.2.2.2.1.below (hb)) (HF.out.2.2.2.2.2.2.below (hb))))))))
      have TR := hide (n)
      refine hK _ _ (fun _ => HF'.out) ?_
      clear hK K HF hb n
      have HF := hide HF'.out
      clear HF'
      refine Calm.one (i := 4) (l' := #[true, true, true, true, true, false, false]) (by kernel_rfl) rfl rfl rfl fun K hK => ?_
      have hc0 := P1.out.cell0
      have hc1 := P1.out.cell1
      have hc2 := P1.out.cell2
      have hc3 := P1.out.cell3
      have hf0 := P1.out.free 0
      have hf1 := P1.out.free 1
      have hf2 := P1.out.free 2
      have hf3 := P1.out.free 3
      go_simp
      have HF' := hide (And.intro (below_put4 HF.out.1 (show w.heap.size ≤ (w.heap.size + 1) by have hx := LTS.out; omega) (.bool s5) (.slice m5 n5 c5) (.bool t5) (.slice o5 p5 d5)) (And.intro (HF.out.2.1.other4 (C := (w.heap.size + 1)) (by have hx := LTS.out; omega) (.bool s5) (.slice m5 n5 c5) (.bool t5) (.slice o5 p5 d5)) (And.intro (HF.out.2.2.1.other4 (C := (w.heap.size + 1)) (by have hx := LTS.out; omega) (.bool s5) (.slice m5 n5 c5) (.bool t5) (.slice o5 p5 d5)) (And.intro (HF.out.2.2.2.1.other4 (C := (w.heap.size + 1)) (by have hx := LTS.out; omega) (.bool s5) (.slice m5 n5 c5) (.bool t5) (.slice o5 p5 d5)) (And.intro (HF.out.2.2.2.2.1.keep (P1.out.keeps (by simp) (by simp) (by simp) (by simp) (.bool s5) (.slice m5 n5 c5) (.bool t5) (.slice o5 p5 d5))) (And.intro (HF.out.2.2.2.2.2.1.keep (P1.out.keeps (by simp) (by simp) (by simp) (by simp) (.bool s5) (.slice m5 n5 c5) (.bool t5) (.slice o5 p5 d5))) (HF.out.2.2.2.2.2.2.keep (P1.out.keeps (by simp) (by simp) (by simp) (by simp) (.bool s5) (.slice m5 n5 c5) (.bool t5) (.slice o5 p5 d5)))))))))
      replace P2 := hide (P2.out.other4 (C := (w.heap.size + 1)) (by have hx := LTS.out; omega) (.bool s5) (.slice m5 n5 c5) (.bool t5) (.slice o5 p5 d5))
      replace TR := hide (TR.out.keep (P1.out.keeps (by simp) (by simp) (by simp) (by simp) (.bool s5) (.slice m5 n5 c5) (.bool t5) (.slice o5 p5 d5)))
      replace P1 := hide (P1.out.put (.bool s5) (.slice m5 n5 c5) (.bool t5) (.slice o5 p5 d5))
      refine hK _ _ (fun _ => HF'.out) ?_
      clear hK K HF hc0 hf0 hc1 hf1 hc2 hf2 hc3 hf3
      have HF := hide HF'.out
      clear HF'
      generalize ((((u6.setCell ⟨(w.heap.size + 1), 0, none⟩ (.bool s5)).setCell ⟨(w.heap.size + 1), 1, none⟩ (.slice m5 n5 c5)).setCell ⟨(w.heap.size + 1), 2, none⟩ (.bool t5)).setCell ⟨(w.heap.size + 1), 3, none⟩ (.slice o5 p5 d5)) = x1 at *
      refine Calm.one (i := 5) (l' := #[true, true, true, true, true, true, false]) (by kernel_rfl) rfl rfl rfl fun K hK => ?_
      have hc0 := P2.out.cell0
      have hc1 := P2.out.cell1
      have hc2 := P2.out.cell2
      have hc3 := P2.out.cell3
      have hf0 := P2.out.free 0
      have hf1 := P2.out.free 1
      have hf2 := P2.out.free 2
      have hf3 := P2.out.free 3
      go_simp
      have HF' := hide (And.intro (below_put4 HF.out.1 (show w.heap.size ≤ (w.heap.size + 1 + 1) by have hx := LTS.out; omega) (.bool s6) (.slice m6 n6 c6) (.bool t6) (.slice o6 p6 d6)) (And.intro (HF.out.2.1.other4 (C := (w.heap.size + 1 + 1)) (by have hx := LTS.out; omega) (.bool s6) (.slice m6 n6 c6) (.bool t6) (.slice o6 p6 d6)) (And.intro (HF.out.2.2.1.other4 (C := (w.heap.size + 1 + 1)) (by have hx := LTS.out; omega) (.bool s6) (.slice m6 n6 c6) (.bool t6) (.slice o6 p6 d6)) (And.intro (HF.out.2.2.2.1.other4 (C := (w.heap.size + 1 + 1)) (by have hx := LTS.out; omega) (.bool s6) (.slice m6 n6 c6) (.bool t6) (.slice o6 p6 d6)) (And.intro (HF.out.2.2.2.2.1.keep (P2.out.keeps (by simp) (by simp) (by simp) (by simp) (.bool s6) (.slice m6 n6 c6) (.bool t6) (.slice o6 p6 d6))) (And.intro (HF.out.2.2.2.2.2.1.keep (P2.out.keeps (by simp) (by simp) (by simp) (by simp) (.bool s6) (.slice m6 n6 c6) (.bool t6) (.slice o6 p6 d6))) (HF.out.2.2.2.2.2.2.keep (P2.out.keeps (by simp) (by simp) (by simp) (by simp) (.bool s6) (.slice m6 n6 c6) (.bool t6) (.slice o6 p6 d6)))))))))
      replace P1 := hide (P1.out.other4 (C := (w.heap.size + 1 + 1)) (by have hx := LTS.out; omega) (.bool s6) (.slice m6 n6 c6) (.bool t6) (.slice o6 p6 d6))
      replace TR := hide (TR.out.keep (P2.out.keeps (by simp) (by simp) (by simp) (by simp) (.bool s6) (.slice m6 n6 c6) (.bool t6) (.slice o6 p6 d6)))
      replace P2 := hide (P2.out.put (.bool s6) (.slice m6 n6 c6) (.bool t6) (.slice o6 p6 d6))
      refine hK _ _ (fun _ => HF'.out) ?_
      clear hK K HF hc0 hf0 hc1 hf1 hc2 hf2 hc3 hf3
      have HF := hide HF'.out
      clear HF'
      generalize ((((x1.setCell ⟨(w.heap.size + 1 + 1), 0, none⟩ (.bool s6)).setCell ⟨(w.heap.size + 1 + 1), 1, none⟩ (.slice m6 n6 c6)).setCell ⟨(w.heap.size + 1 + 1), 2, none⟩ (.bool t6)).setCell ⟨(w.heap.size + 1 + 1), 3, none⟩ (.slice o6 p6 d6)) = x2 at *
      refine Calm.take (i := 6) (v := ?_) (a' := ?_) (l' := #[true, true, true, true, true, true, true]) (d := some 4) rfl (by kernel_rfl) (by kernel_rfl) (by kernel_rfl) (by kernel_rfl) (fun _ _ _ h => h) HF.out rfl ?_ rfl rfl ?_ ?_
      rotate_left
      · intro w' hF; clear hF; go_simp; try rfl
      rotate_left
      · simp only [Act.put]; exact rfl
      refine Calm.done (by kernel_rfl) ?_
      replace HB := hide HF.out.1
      replace V5 := hide HF.out.2.1
      replace V3 := hide HF.out.2.2.1
      replace V4 := hide HF.out.2.2.2.1
      replace I3 := hide HF.out.2.2.2.2.1
      replace I4 := hide HF.out.2.2.2.2.2.1
      replace I5 := hide HF.out.2.2.2.2.2.2
      clear HF
      clear P0
      clear I1
      clear I2
      clear V1
      clear V2
      go_wp2
      refine ret_rats rfl (w.heap.size + 1) (w.heap.size + 1 + 1) _ _ _ _ _ _ _ _ _ rfl P1.out rfl P2.out rfl rfl ?_
      exact ⟨⟨_, _, _, _, _, _, _, _, _, _, _, _, _, _, _, _, true, rfl, fun _ => ⟨_, I5.out, TR.out, ⟨(SzR.divInt HZ.out Z3.out Z4.out).1, (SzR.divInt HZ.out Z3.out Z4.out).2⟩⟩⟩, HB.out⟩

end Go.Proofs.Ytbaicocncalfaaa
