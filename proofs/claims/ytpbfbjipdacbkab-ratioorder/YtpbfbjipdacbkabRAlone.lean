/- swagelaw03.alone: some fraction, not too great. -/
import Derived.Test.YtpbfbjipdacbkabRBox
import Derived.Deep.Cut
namespace Go.Proofs.Ytpbfbjipdacbkab
open Go.RowKit

set_option maxRecDepth 100000 in
set_option maxHeartbeats 8000000 in
theorem alone_any (a b : ByteArray) (w : World) (la : a.size ≤ 9223372036854775807) (lb : b.size ≤ 9223372036854775807) :
    Calls Try.prog 19 #[.agg #[.string a, .string b]] w fun e w' => SomeQ e w' ∧ Below w.heap.size w w' := by
  have P0 := BoxF.new w (.string a) (.string b)
  replace P0 := P0.step (below_alloc _ (.cells #[.bool false, .slice none 0 0, .bool false, .slice none 0 0] 29))
  replace P0 := hide P0
  have P1 := Box4.new (w.alloc (.cells #[.string a, .string b] 23)) (.bool false) (.slice none 0 0) (.bool false) (.slice none 0 0)
  simp only [World.size_alloc] at P1
  replace P1 := hide P1
  have HB := below_alloc w (.cells #[.string a, .string b] 23)
  replace HB := HB.trans ((below_alloc _ (.cells #[.bool false, .slice none 0 0, .bool false, .slice none 0 0] 29)).mono (by simp only [World.size_alloc]; omega))
  replace HB := hide HB
  go_enter Try.func19, Try.ntmps19
  go_wp2_with fail
  generalize ((w.alloc (.cells #[.string a, .string b] 23)).alloc (.cells #[.bool false, .slice none 0 0, .bool false, .slice none 0 0] 29)) = w0 at *
  refine (iread_any a _ la).mono ?_
  rintro e u1 ⟨v, z1, e1, q1, rfl, n, hr, hb⟩
  obtain ⟨s1, m1, n1, c1, rfl, n⟩ := n.cells
  have Z1 := hide hr.sz
  replace P0 := hide (P0.out.step (hb))
  replace P1 := hide (P1.out.step (hb))
  replace HB := hide (HB.out.trans ((hb).mono HB.out.size))
  have I1 := hide (n)
  clear hb n hr
  have hP00 := P0.out.cell0
  have hP01 := P0.out.cell1
  have ltP0 := P0.out.lt
  go_wp2_with fail
  clear ltP0
  clear hP00 hP01
  have hg1 := HB.out.size
  have hp1 := P1.out.lt
  have V1 := Box.new u1 (.bool s1) (.slice m1 n1 c1)
  replace V1 := V1.step (below_alloc _ (.cells #[.int .i64 (e1 : Nat), .int .i64 (q1 : Nat)] 47))
  replace V1 := hide V1
  have S1 := BoxS.new (u1.alloc (.cells #[.bool s1, .slice m1 n1 c1] 27)) (.int .i64 (e1 : Nat)) (.int .i64 (q1 : Nat))
  simp only [World.size_alloc] at S1
  replace S1 := hide S1
  have al := below_alloc u1 (.cells #[.bool s1, .slice m1 n1 c1] 27)
  replace al := al.trans ((below_alloc _ (.cells #[.int .i64 (e1 : Nat), .int .i64 (q1 : Nat)] 47)).mono (by simp only [World.size_alloc]; omega))
  replace P0 := hide (P0.out.step (al))
  replace P1 := hide (P1.out.step (al))
  replace HB := hide (HB.out.trans ((al).mono HB.out.size))
  replace I1 := hide (I1.out.below (al))
  clear al
  generalize ((u1.alloc (.cells #[.bool s1, .slice m1 n1 c1] 27)).alloc (.cells #[.int .i64 (e1 : Nat), .int .i64 (q1 : Nat)] 47)) = u1a at *
  generalize u1.heap.size = g1 at *
  refine (iread_any b _ lb).mono ?_
  rintro e u2 ⟨v, z2, e2, q2, rfl, n, hr, hb⟩
  obtain ⟨s2, m2, n2, c2, rfl, n⟩ := n.cells
  have Z2 := hide hr.sz
  replace P0 := hide (P0.out.step (hb))
  replace P1 := hide (P1.out.step (hb))
  replace HB := hide (HB.out.trans ((hb).mono HB.out.size))
  replace I1 := hide (I1.out.below (hb))
  replace V1 := hide (V1.out.step (hb))
  replace S1 := hide (S1.out.step (hb))
  have I2 := hide (n)
  clear hb n hr
  have hV10 := V1.out.cell0
  have hV11 := V1.out.cell1
  have ltV1 := V1.out.lt
  go_wp2_with fail
  clear ltV1
  clear hV10 hV11
  have hg2 := HB.out.size
  have hp2 := P1.out.lt
  have hv2 := S1.out.lt
  have V2 := Box.new u2 (.bool s2) (.slice m2 n2 c2)
  replace V2 := V2.step (below_alloc _ (.cells #[.int .i64 (e2 : Nat), .int .i64 (q2 : Nat)] 47))
  replace V2 := hide V2
  have S2 := BoxS.new (u2.alloc (.cells #[.bool s2, .slice m2 n2 c2] 27)) (.int .i64 (e2 : Nat)) (.int .i64 (q2 : Nat))
  simp only [World.size_alloc] at S2
  replace S2 := hide S2
  have al := below_alloc u2 (.cells #[.bool s2, .slice m2 n2 c2] 27)
  replace al := al.trans ((below_alloc _ (.cells #[.int .i64 (e2 : Nat), .int .i64 (q2 : Nat)] 47)).mono (by simp only [World.size_alloc]; omega))
  replace P0 := hide (P0.out.step (al))
  replace P1 := hide (P1.out.step (al))
  replace HB := hide (HB.out.trans ((al).mono HB.out.size))
  replace I1 := hide (I1.out.below (al))
  replace V1 := hide (V1.out.step (al))
  replace S1 := hide (S1.out.step (al))
  replace I2 := hide (I2.out.below (al))
  clear al
  generalize ((u2.alloc (.cells #[.bool s2, .slice m2 n2 c2] 27)).alloc (.cells #[.int .i64 (e2 : Nat), .int .i64 (q2 : Nat)] 47)) = u2a at *
  generalize u2.heap.size = g2 at *
  have LTS : Hid True := hide trivial
  by_cases hz : z2 = 0
  · refine (rmake_zero _ _ z1 z2 _ I1.out I2.out hz).mono ?_
    rintro e u3 ⟨v, rfl, n, hb⟩
    obtain ⟨s5, m5, n5, c5, t5, o5, p5, d5, rfl, n⟩ := n.cells
    replace P0 := hide (P0.out.step (hb))
    replace P1 := hide (P1.out.step (hb))
    replace HB := hide (HB.out.trans ((hb).mono HB.out.size))
    replace I1 := hide (I1.out.below (hb))
    replace V1 := hide (V1.out.step (hb))
    replace S1 := hide (S1.out.step (hb))
    replace I2 := hide (I2.out.below (hb))
    replace V2 := hide (V2.out.step (hb))
    replace S2 := hide (S2.out.step (hb))
    have TR := hide (n)
    clear hb n
    have SQ := hide (SzR.zero)
    clear hz
    go_upto_region 4 with fail
    have V5 := Box4.new u3 (.bool s5) (.slice m5 n5 c5) (.bool t5) (.slice o5 p5 d5)
    replace V5 := hide V5
    have al := below_alloc u3 (.cells #[.bool s5, .slice m5 n5 c5, .bool t5, .slice o5 p5 d5] 29)
    replace P0 := hide (P0.out.step (al))
    replace P1 := hide (P1.out.step (al))
    replace HB := hide (HB.out.trans ((al).mono HB.out.size))
    replace I1 := hide (I1.out.below (al))
    replace V1 := hide (V1.out.step (al))
    replace S1 := hide (S1.out.step (al))
    replace I2 := hide (I2.out.below (al))
    replace V2 := hide (V2.out.step (al))
    replace S2 := hide (S2.out.step (al))
    replace TR := hide (TR.out.below (al))
    clear al
    generalize (u3.alloc (.cells #[.bool s5, .slice m5 n5 c5, .bool t5, .slice o5 p5 d5] 29)) = u3a at *
    generalize u3.heap.size = g5 at *
    have hS10 := S1.out.cell0
    have hS11 := S1.out.cell1
    have hS20 := S2.out.cell0
    have hS21 := S2.out.cell1
    have hV50 := V5.out.cell0
    have hV51 := V5.out.cell1
    have hV52 := V5.out.cell2
    have hV53 := V5.out.cell3
    have hP10 := P1.out.cell0
    have hP11 := P1.out.cell1
    have hP12 := P1.out.cell2
    have hP13 := P1.out.cell3
    have fP10 := P1.out.free 0
    have fP11 := P1.out.free 1
    have fP12 := P1.out.free 2
    have fP13 := P1.out.free 3
    by_cases h1 : e1 = 0
    · subst h1
      by_cases h2 : e2 = 0
      · subst h2
        go_wp2
        refine ret_rate rfl (w.heap.size + 1) _ _ _ _ rfl (P1.out.put _ _ _ _) rfl ?_
        exact ⟨⟨_, _, _, rfl, TR.out.keep (P1.out.keeps (by simp) (by simp) (by simp) (by simp) _ _ _ _), SQ.out⟩, below_put4 HB.out (by omega) _ _ _ _⟩
      · have hne : ((e2 : Int) == 0) = false := by simp; omega
        go_wp2
        refine ret_rate rfl (w.heap.size + 1) _ _ _ _ rfl (P1.out.put _ _ _ _) rfl ?_
        exact ⟨⟨_, _, _, rfl, TR.out.keep (P1.out.keeps (by simp) (by simp) (by simp) (by simp) _ _ _ _), SQ.out⟩, below_put4 HB.out (by omega) _ _ _ _⟩
    · have hne : ((e1 : Int) == 0) = false := by simp; omega
      go_wp2
      refine ret_rate rfl (w.heap.size + 1) _ _ _ _ rfl (P1.out.put _ _ _ _) rfl ?_
      exact ⟨⟨_, _, _, rfl, TR.out.keep (P1.out.keeps (by simp) (by simp) (by simp) (by simp) _ _ _ _), SQ.out⟩, below_put4 HB.out (by omega) _ _ _ _⟩
  · refine (rmake_any _ _ z1 z2 _ I1.out I2.out (Z1.out.len (by decide)) (Z2.out.len (by decide)) hz).mono ?_
    rintro e u3 ⟨v, rfl, n, hb⟩
    obtain ⟨s5, m5, n5, c5, t5, o5, p5, d5, rfl, n⟩ := n.cells
    replace P0 := hide (P0.out.step (hb))
    replace P1 := hide (P1.out.step (hb))
    replace HB := hide (HB.out.trans ((hb).mono HB.out.size))
    replace I1 := hide (I1.out.below (hb))
    replace V1 := hide (V1.out.step (hb))
    replace S1 := hide (S1.out.step (hb))
    replace I2 := hide (I2.out.below (hb))
    replace V2 := hide (V2.out.step (hb))
    replace S2 := hide (S2.out.step (hb))
    have TR := hide (n)
    clear hb n
    have SQ := hide (show SzR 65536 (Rat.divInt z1 z2) from ⟨(SzR.divInt hz Z1.out Z2.out).1, (SzR.divInt hz Z1.out Z2.out).2⟩)
    have HZ := hide hz
    clear hz
    go_upto_region 4 with fail
    have V5 := Box4.new u3 (.bool s5) (.slice m5 n5 c5) (.bool t5) (.slice o5 p5 d5)
    replace V5 := hide V5
    have al := below_alloc u3 (.cells #[.bool s5, .slice m5 n5 c5, .bool t5, .slice o5 p5 d5] 29)
    replace P0 := hide (P0.out.step (al))
    replace P1 := hide (P1.out.step (al))
    replace HB := hide (HB.out.trans ((al).mono HB.out.size))
    replace I1 := hide (I1.out.below (al))
    replace V1 := hide (V1.out.step (al))
    replace S1 := hide (S1.out.step (al))
    replace I2 := hide (I2.out.below (al))
    replace V2 := hide (V2.out.step (al))
    replace S2 := hide (S2.out.step (al))
    replace TR := hide (TR.out.below (al))
    clear al
    generalize (u3.alloc (.cells #[.bool s5, .slice m5 n5 c5, .bool t5, .slice o5 p5 d5] 29)) = u3a at *
    generalize u3.heap.size = g5 at *
    have hS10 := S1.out.cell0
    have hS11 := S1.out.cell1
    have hS20 := S2.out.cell0
    have hS21 := S2.out.cell1
    have hV50 := V5.out.cell0
    have hV51 := V5.out.cell1
    have hV52 := V5.out.cell2
    have hV53 := V5.out.cell3
    have hP10 := P1.out.cell0
    have hP11 := P1.out.cell1
    have hP12 := P1.out.cell2
    have hP13 := P1.out.cell3
    have fP10 := P1.out.free 0
    have fP11 := P1.out.free 1
    have fP12 := P1.out.free 2
    have fP13 := P1.out.free 3
    by_cases h1 : e1 = 0
    · subst h1
      by_cases h2 : e2 = 0
      · subst h2
        go_wp2
        refine ret_rate rfl (w.heap.size + 1) _ _ _ _ rfl (P1.out.put _ _ _ _) rfl ?_
        exact ⟨⟨_, _, _, rfl, TR.out.keep (P1.out.keeps (by simp) (by simp) (by simp) (by simp) _ _ _ _), SQ.out⟩, below_put4 HB.out (by omega) _ _ _ _⟩
      · have hne : ((e2 : Int) == 0) = false := by simp; omega
        go_wp2
        refine ret_rate rfl (w.heap.size + 1) _ _ _ _ rfl (P1.out.put _ _ _ _) rfl ?_
        exact ⟨⟨_, _, _, rfl, TR.out.keep (P1.out.keeps (by simp) (by simp) (by simp) (by simp) _ _ _ _), SQ.out⟩, below_put4 HB.out (by omega) _ _ _ _⟩
    · have hne : ((e1 : Int) == 0) = false := by simp; omega
      go_wp2
      refine ret_rate rfl (w.heap.size + 1) _ _ _ _ rfl (P1.out.put _ _ _ _) rfl ?_
      exact ⟨⟨_, _, _, rfl, TR.out.keep (P1.out.keeps (by simp) (by simp) (by simp) (by simp) _ _ _ _), SQ.out⟩, below_put4 HB.out (by omega) _ _ _ _⟩
end Go.Proofs.Ytpbfbjipdacbkab
