/- swagelaw03.RatioReads answers true at all texts, and turns nothing that was there. -/
import Derived.Test.YtgkibmigbjjnnaaR3Read
import Derived.Test.YtgkibmigbjjnnaaRWorks
import Derived.Deep.Cut
namespace Go.Proofs.Ytgkibmigbjjnnaa
open Go.RowKit

set_option maxRecDepth 100000 in
set_option maxHeartbeats 8000000 in
theorem rreads3_walk (s : ByteArray) (w : World) (ls : s.size ≤ 9223372036854775807) :
    Calls Try.prog 5 #[.string s] w fun e w' => e = .returned (.bool true) ∧ Below w.heap.size w w' := by
  have LS := hide ls
  clear ls
  have HB := hide (Below.refl w.heap.size w)
  go_enter Try.func5, Try.ntmps5
  go_wp2_with fail
  refine (works3_any _).mono ?_
  rintro e u1 ⟨rfl, hb⟩
  replace HB := hide (HB.out.trans ((hb).mono HB.out.size))
  clear hb
  go_upto_region 3 with fail
  by_cases h8 : 800 < s.size ∧ s.size ≤ 65536
  · obtain ⟨h8, h9⟩ := h8
    go_wp2
    go_ret
    exact ⟨rfl, HB.out⟩
  · have H8 := hide h8
    by_cases h7 : 800 < s.size
    · have h9 : 65536 < s.size := by omega
      clear h8
      go_wp2_with fail
      refine (rread_rat s _ LS.out).mono ?_
      rintro e u2 ⟨⟨v, q1, p1, b1, rfl, kx, hr⟩, hb⟩
      have R1 := hide hr
      obtain ⟨s1, m1, n1, c1, t1, o1, p1', d1, rfl, ky⟩ := kx.cells
      replace HB := hide (HB.out.trans ((hb).mono HB.out.size))
      have I1 := hide (ky)
      clear hb kx ky hr
      go_wp2_with fail
      have V1 := Box4.new u2 (.bool s1) (.slice m1 n1 c1) (.bool t1) (.slice o1 p1' d1)
      replace V1 := V1.step (below_alloc _ (.cells #[.int .i64 ((p1 : Nat) : Int), .int .i64 ((b1 : Nat) : Int)] 30))
      replace V1 := hide V1
      have V2 := BoxS.new (u2.alloc (.cells #[.bool s1, .slice m1 n1 c1, .bool t1, .slice o1 p1' d1] 27)) (.int .i64 ((p1 : Nat) : Int)) (.int .i64 ((b1 : Nat) : Int))
      simp only [World.size_alloc] at V2
      replace V2 := hide V2
      have al := below_alloc u2 (.cells #[.bool s1, .slice m1 n1 c1, .bool t1, .slice o1 p1' d1] 27)
      replace al := al.trans ((below_alloc _ (.cells #[.int .i64 ((p1 : Nat) : Int), .int .i64 ((b1 : Nat) : Int)] 30)).mono (by simp only [World.size_alloc]; omega))
      replace HB := hide (HB.out.trans ((al).mono HB.out.size))
      replace I1 := hide (I1.out.below (al))
      clear al
      generalize ((u2.alloc (.cells #[.bool s1, .slice m1 n1 c1, .bool t1, .slice o1 p1' d1] 27)).alloc (.cells #[.int .i64 ((p1 : Nat) : Int), .int .i64 ((b1 : Nat) : Int)] 30)) = u2a at *
      generalize u2.heap.size = g1 at *
      refine (r3read_any s _ LS.out).mono ?_
      rintro e u3 ⟨⟨v, q2, p2, b2, rfl, kx, hr, sz⟩, hb⟩
      obtain ⟨rfl, rfl, rfl⟩ := R1.out.same hr
      obtain ⟨s2, m2, n2, c2, t2, o2, p2', d2, rfl, ky⟩ := kx.cells
      have S2 := hide sz
      replace HB := hide (HB.out.trans ((hb).mono HB.out.size))
      replace I1 := hide (I1.out.below (hb))
      replace V1 := hide (V1.out.step (hb))
      replace V2 := hide (V2.out.step (hb))
      have I2 := hide ky
      clear hb kx ky hr sz
      go_upto_region 7 with fail
      have V3 := BoxQ.new u3 (.bool s2) (.slice m2 n2 c2) (.bool t2) (.slice o2 p2' d2)
      replace V3 := V3.step (below_alloc _ (.cells #[.int .i64 ((p1 : Nat) : Int), .int .i64 ((b1 : Nat) : Int)] 30))
      replace V3 := hide V3
      have V4 := BoxS.new (u3.alloc (.cells #[.bool s2, .slice m2 n2 c2, .bool t2, .slice o2 p2' d2] 59)) (.int .i64 ((p1 : Nat) : Int)) (.int .i64 ((b1 : Nat) : Int))
      simp only [World.size_alloc] at V4
      replace V4 := hide V4
      have al := below_alloc u3 (.cells #[.bool s2, .slice m2 n2 c2, .bool t2, .slice o2 p2' d2] 59)
      replace al := al.trans ((below_alloc _ (.cells #[.int .i64 ((p1 : Nat) : Int), .int .i64 ((b1 : Nat) : Int)] 30)).mono (by simp only [World.size_alloc]; omega))
      replace HB := hide (HB.out.trans ((al).mono HB.out.size))
      replace I1 := hide (I1.out.below (al))
      replace V1 := hide (V1.out.step (al))
      replace V2 := hide (V2.out.step (al))
      replace I2 := hide (I2.out.below (al))
      clear al
      generalize ((u3.alloc (.cells #[.bool s2, .slice m2 n2 c2, .bool t2, .slice o2 p2' d2] 59)).alloc (.cells #[.int .i64 ((p1 : Nat) : Int), .int .i64 ((b1 : Nat) : Int)] 30)) = u3a at *
      generalize u3.heap.size = g2 at *
      have hV10 := V1.out.cell0
      have hV11 := V1.out.cell1
      have hV12 := V1.out.cell2
      have hV13 := V1.out.cell3
      have hV20 := V2.out.cell0
      have hV21 := V2.out.cell1
      have hV30 := V3.out.cell0
      have hV31 := V3.out.cell1
      have hV32 := V3.out.cell2
      have hV33 := V3.out.cell3
      have hV40 := V4.out.cell0
      have hV41 := V4.out.cell1
      go_wp2_with fail
      clear hV10 hV11 hV12 hV13
      clear hV20 hV21
      clear hV30 hV31 hV32 hV33
      clear hV40 hV41
      refine (is3_yes _ _ q1 _ I1.out I2.out ⟨S2.out.num.mono (by decide), S2.out.den.mono (by decide)⟩).mono ?_
      rintro e u4 ⟨rfl, hb⟩
      replace HB := hide (HB.out.trans ((hb).mono HB.out.size))
      replace I1 := hide (I1.out.below (hb))
      replace V1 := hide (V1.out.step (hb))
      replace V2 := hide (V2.out.step (hb))
      replace I2 := hide (I2.out.below (hb))
      replace V3 := hide (V3.out.step (hb))
      replace V4 := hide (V4.out.step (hb))
      clear hb
      go_wp2
      go_ret
      exact ⟨rfl, HB.out⟩
    · skip
      clear h8
      go_wp2_with fail
      refine (rread_rat s _ LS.out).mono ?_
      rintro e u2 ⟨⟨v, q1, p1, b1, rfl, kx, hr⟩, hb⟩
      have R1 := hide hr
      obtain ⟨s1, m1, n1, c1, t1, o1, p1', d1, rfl, ky⟩ := kx.cells
      replace HB := hide (HB.out.trans ((hb).mono HB.out.size))
      have I1 := hide (ky)
      clear hb kx ky hr
      go_wp2_with fail
      have V1 := Box4.new u2 (.bool s1) (.slice m1 n1 c1) (.bool t1) (.slice o1 p1' d1)
      replace V1 := V1.step (below_alloc _ (.cells #[.int .i64 ((p1 : Nat) : Int), .int .i64 ((b1 : Nat) : Int)] 30))
      replace V1 := hide V1
      have V2 := BoxS.new (u2.alloc (.cells #[.bool s1, .slice m1 n1 c1, .bool t1, .slice o1 p1' d1] 27)) (.int .i64 ((p1 : Nat) : Int)) (.int .i64 ((b1 : Nat) : Int))
      simp only [World.size_alloc] at V2
      replace V2 := hide V2
      have al := below_alloc u2 (.cells #[.bool s1, .slice m1 n1 c1, .bool t1, .slice o1 p1' d1] 27)
      replace al := al.trans ((below_alloc _ (.cells #[.int .i64 ((p1 : Nat) : Int), .int .i64 ((b1 : Nat) : Int)] 30)).mono (by simp only [World.size_alloc]; omega))
      replace HB := hide (HB.out.trans ((al).mono HB.out.size))
      replace I1 := hide (I1.out.below (al))
      clear al
      generalize ((u2.alloc (.cells #[.bool s1, .slice m1 n1 c1, .bool t1, .slice o1 p1' d1] 27)).alloc (.cells #[.int .i64 ((p1 : Nat) : Int), .int .i64 ((b1 : Nat) : Int)] 30)) = u2a at *
      generalize u2.heap.size = g1 at *
      refine (r3read_any s _ LS.out).mono ?_
      rintro e u3 ⟨⟨v, q2, p2, b2, rfl, kx, hr, sz⟩, hb⟩
      obtain ⟨rfl, rfl, rfl⟩ := R1.out.same hr
      obtain ⟨s2, m2, n2, c2, t2, o2, p2', d2, rfl, ky⟩ := kx.cells
      have S2 := hide sz
      replace HB := hide (HB.out.trans ((hb).mono HB.out.size))
      replace I1 := hide (I1.out.below (hb))
      replace V1 := hide (V1.out.step (hb))
      replace V2 := hide (V2.out.step (hb))
      have I2 := hide ky
      clear hb kx ky hr sz
      go_upto_region 7 with fail
      have V3 := BoxQ.new u3 (.bool s2) (.slice m2 n2 c2) (.bool t2) (.slice o2 p2' d2)
      replace V3 := V3.step (below_alloc _ (.cells #[.int .i64 ((p1 : Nat) : Int), .int .i64 ((b1 : Nat) : Int)] 30))
      replace V3 := hide V3
      have V4 := BoxS.new (u3.alloc (.cells #[.bool s2, .slice m2 n2 c2, .bool t2, .slice o2 p2' d2] 59)) (.int .i64 ((p1 : Nat) : Int)) (.int .i64 ((b1 : Nat) : Int))
      simp only [World.size_alloc] at V4
      replace V4 := hide V4
      have al := below_alloc u3 (.cells #[.bool s2, .slice m2 n2 c2, .bool t2, .slice o2 p2' d2] 59)
      replace al := al.trans ((below_alloc _ (.cells #[.int .i64 ((p1 : Nat) : Int), .int .i64 ((b1 : Nat) : Int)] 30)).mono (by simp only [World.size_alloc]; omega))
      replace HB := hide (HB.out.trans ((al).mono HB.out.size))
      replace I1 := hide (I1.out.below (al))
      replace V1 := hide (V1.out.step (al))
      replace V2 := hide (V2.out.step (al))
      replace I2 := hide (I2.out.below (al))
      clear al
      generalize ((u3.alloc (.cells #[.bool s2, .slice m2 n2 c2, .bool t2, .slice o2 p2' d2] 59)).alloc (.cells #[.int .i64 ((p1 : Nat) : Int), .int .i64 ((b1 : Nat) : Int)] 30)) = u3a at *
      generalize u3.heap.size = g2 at *
      have hV10 := V1.out.cell0
      have hV11 := V1.out.cell1
      have hV12 := V1.out.cell2
      have hV13 := V1.out.cell3
      have hV20 := V2.out.cell0
      have hV21 := V2.out.cell1
      have hV30 := V3.out.cell0
      have hV31 := V3.out.cell1
      have hV32 := V3.out.cell2
      have hV33 := V3.out.cell3
      have hV40 := V4.out.cell0
      have hV41 := V4.out.cell1
      go_wp2_with fail
      clear hV10 hV11 hV12 hV13
      clear hV20 hV21
      clear hV30 hV31 hV32 hV33
      clear hV40 hV41
      refine (is3_yes _ _ q1 _ I1.out I2.out ⟨S2.out.num.mono (by decide), S2.out.den.mono (by decide)⟩).mono ?_
      rintro e u4 ⟨rfl, hb⟩
      replace HB := hide (HB.out.trans ((hb).mono HB.out.size))
      replace I1 := hide (I1.out.below (hb))
      replace V1 := hide (V1.out.step (hb))
      replace V2 := hide (V2.out.step (hb))
      replace I2 := hide (I2.out.below (hb))
      replace V3 := hide (V3.out.step (hb))
      replace V4 := hide (V4.out.step (hb))
      clear hb
      go_wp2
      go_ret
      exact ⟨rfl, HB.out⟩
end Go.Proofs.Ytgkibmigbjjnnaa
