/- swagelaw03.three: some three fractions. -/
import Derived.Test.YtpbfbjipdacbkaaRLow
import Derived.Test.YtpbfbjipdacbkaaIRead
import Derived.Deep.Cut
import Derived.Test.YtpbfbjipdacbkaaRSame
namespace Go.Proofs.Ytpbfbjipdacbkaa
open Go.RowKit

def BoxF (W : World) (B : Nat) (x y : Value) : Prop := Box2 W B 51 x y
theorem BoxF.cell0 {W : World} {B : Nat} {x y : Value} (h : BoxF W B x y) : W.cell? ⟨B, 0, none⟩ = some x := Box2.cell0 h
theorem BoxF.cell1 {W : World} {B : Nat} {x y : Value} (h : BoxF W B x y) : W.cell? ⟨B, 1, none⟩ = some y := Box2.cell1 h
theorem BoxF.free {W : World} {B : Nat} {x y : Value} (h : BoxF W B x y) (o : Nat) : W.frozen? ⟨B, o, none⟩ = false := Box2.free h o
theorem BoxF.lt {W : World} {B : Nat} {x y : Value} (h : BoxF W B x y) : B < W.heap.size := Box2.lt h
theorem BoxF.step {W W' : World} {B : Nat} {x y : Value} (h : BoxF W B x y) (hb : Below W.heap.size W W') : BoxF W' B x y := Box2.step h hb
theorem BoxF.drew {W : World} {B : Nat} {x y : Value} (h : BoxF W B x y) : BoxF W.drew B x y := h
theorem BoxF.new (W : World) (x y : Value) : BoxF (W.alloc (.cells #[x, y] 51)) W.heap.size x y := Box2.new W _ x y
theorem BoxF.other4 {W : World} {B C : Nat} {x y : Value} (h : BoxF W B x y) (hne : C ≠ B) (x' y' u' v' : Value) : BoxF ((((W.setCell ⟨C, 0, none⟩ x').setCell ⟨C, 1, none⟩ y').setCell ⟨C, 2, none⟩ u').setCell ⟨C, 3, none⟩ v') B x y :=
  Box2.set_ne (Box2.set_ne (Box2.set_ne (Box2.set_ne h hne _) hne _) hne _) hne _
def BoxS (W : World) (B : Nat) (x y : Value) : Prop := Box2 W B 30 x y
theorem BoxS.cell0 {W : World} {B : Nat} {x y : Value} (h : BoxS W B x y) : W.cell? ⟨B, 0, none⟩ = some x := Box2.cell0 h
theorem BoxS.cell1 {W : World} {B : Nat} {x y : Value} (h : BoxS W B x y) : W.cell? ⟨B, 1, none⟩ = some y := Box2.cell1 h
theorem BoxS.free {W : World} {B : Nat} {x y : Value} (h : BoxS W B x y) (o : Nat) : W.frozen? ⟨B, o, none⟩ = false := Box2.free h o
theorem BoxS.lt {W : World} {B : Nat} {x y : Value} (h : BoxS W B x y) : B < W.heap.size := Box2.lt h
theorem BoxS.step {W W' : World} {B : Nat} {x y : Value} (h : BoxS W B x y) (hb : Below W.heap.size W W') : BoxS W' B x y := Box2.step h hb
theorem BoxS.drew {W : World} {B : Nat} {x y : Value} (h : BoxS W B x y) : BoxS W.drew B x y := h
theorem BoxS.new (W : World) (x y : Value) : BoxS (W.alloc (.cells #[x, y] 30)) W.heap.size x y := Box2.new W _ x y
theorem BoxS.other4 {W : World} {B C : Nat} {x y : Value} (h : BoxS W B x y) (hne : C ≠ B) (x' y' u' v' : Value) : BoxS ((((W.setCell ⟨C, 0, none⟩ x').setCell ⟨C, 1, none⟩ y').setCell ⟨C, 2, none⟩ u').setCell ⟨C, 3, none⟩ v') B x y :=
  Box2.set_ne (Box2.set_ne (Box2.set_ne (Box2.set_ne h hne _) hne _) hne _) hne _

theorem IRd.sz {s : ByteArray} {z : Int} {a b : Nat} (h : IRd s z a b) : SzI 65536 z := by
  have h0 : SzI 65536 0 := SzI.zero.mono (by decide)
  rcases h with ⟨_, rfl, _, _⟩ | ⟨_, _, _, rfl, _, _⟩ | ⟨hs, _, xs, a', b', hr, ⟨_, rfl, _, _⟩ | ⟨_, rfl, _, _⟩⟩
  · exact h0
  · exact h0
  · exact h0
  · have hc := cutP_size s 45
    rcases hr with ⟨_, rfl, _, _⟩ | ⟨_, rfl, _, _⟩ | ⟨_, i, _, _, _, rfl, _, _⟩ | ⟨_, _, hg, rfl, _, _⟩
    · exact SzI.of Ok.nil (Nat.zero_le _)
    · exact SzI.of Ok.nil (Nat.zero_le _)
    · exact SzI.of Ok.nil (Nat.zero_le _)
    · exact SzI.of (ok_lim _) (Nat.le_trans (nv_len _ _ _ hg (Nat.le_refl _)) (by omega))
/-- a truth is handed back -/
def SomeB (e : Ending) : Prop := ∃ r, e = .returned (.bool r)
/-- some fraction, not too great, and a truth -/
def SomeQ (e : Ending) (w : World) : Prop := ∃ v q ok, e = .returned (.tuple #[v, .bool ok]) ∧ RatAt w v q ∧ SzR 65536 q
theorem SzR.zero : SzR 65536 0 := ⟨SzI.zero.mono (by decide), SzI.one.mono (by decide)⟩
end Go.Proofs.Ytpbfbjipdacbkaa

namespace Go.Proofs.Ytpbfbjipdacbkaa
open Go.RowKit

set_option maxRecDepth 100000 in
set_option maxHeartbeats 8000000 in
theorem alone_any (a b : ByteArray) (w : World) (la : a.size ≤ 9223372036854775807) (lb : b.size ≤ 9223372036854775807) :
    Calls Try.prog 83 #[.agg #[.string a, .string b]] w fun e w' => SomeQ e w' ∧ Below w.heap.size w w' := by
  have P0 := BoxF.new w (.string a) (.string b)
  replace P0 := P0.step (below_alloc _ (.cells #[.bool false, .slice none 0 0, .bool false, .slice none 0 0] 27))
  replace P0 := hide P0
  have P1 := Box4.new (w.alloc (.cells #[.string a, .string b] 51)) (.bool false) (.slice none 0 0) (.bool false) (.slice none 0 0)
  simp only [World.size_alloc] at P1
  replace P1 := hide P1
  have HB := below_alloc w (.cells #[.string a, .string b] 51)
  replace HB := HB.trans ((below_alloc _ (.cells #[.bool false, .slice none 0 0, .bool false, .slice none 0 0] 27)).mono (by simp only [World.size_alloc]; omega))
  replace HB := hide HB
  go_enter Try.func83, Try.ntmps83
  go_wp2_with fail
  generalize ((w.alloc (.cells #[.string a, .string b] 51)).alloc (.cells #[.bool false, .slice none 0 0, .bool false, .slice none 0 0] 27)) = w0 at *
  refine (iread_any a _ la).mono ?_
  rintro e u1 ⟨v, z1, e1, q1, rfl, n, hr, hb⟩
  obtain ⟨s1, m1, n1, c1, rfl, n⟩ := n.cells
  have Z1 := hide hr.sz
  replace P0 := hide (P0.out.step (hb))
  replace P1 := hide (P1.out.step (hb))
  replace HB := hide (HB.out.trans ((hb).mono HB.out.size))
  have I1 := hide (n)
  clear hb n hr
  have hP00 := P0.out.cell0
  have hP01 := P0.out.cell1
  have ltP0 := P0.out.lt
  go_wp2_with fail
  clear ltP0
  clear hP00 hP01
  have hg1 := HB.out.size
  have hp1 := P1.out.lt
  have V1 := Box.new u1 (.bool s1) (.slice m1 n1 c1)
  replace V1 := V1.step (below_alloc _ (.cells #[.int .i64 (e1 : Nat), .int .i64 (q1 : Nat)] 30))
  replace V1 := hide V1
  have S1 := BoxS.new (u1.alloc (.cells #[.bool s1, .slice m1 n1 c1] 25)) (.int .i64 (e1 : Nat)) (.int .i64 (q1 : Nat))
  simp only [World.size_alloc] at S1
  replace S1 := hide S1
  have al := below_alloc u1 (.cells #[.bool s1, .slice m1 n1 c1] 25)
  replace al := al.trans ((below_alloc _ (.cells #[.int .i64 (e1 : Nat), .int .i64 (q1 : Nat)] 30)).mono (by simp only [World.size_alloc]; omega))
  replace P0 := hide (P0.out.step (al))
  replace P1 := hide (P1.out.step (al))
  replace HB := hide (HB.out.trans ((al).mono HB.out.size))
  replace I1 := hide (I1.out.below (al))
  clear al
  generalize ((u1.alloc (.cells #[.bool s1, .slice m1 n1 c1] 25)).alloc (.cells #[.int .i64 (e1 : Nat), .int .i64 (q1 : Nat)] 30)) = u1a at *
  generalize u1.heap.size = g1 at *
  refine (iread_any b _ lb).mono ?_
  rintro e u2 ⟨v, z2, e2, q2, rfl, n, hr, hb⟩
  obtain ⟨s2, m2, n2, c2, rfl, n⟩ := n.cells
  have Z2 := hide hr.sz
  replace P0 := hide (P0.out.step (hb))
  replace P1 := hide (P1.out.step (hb))
  replace HB := hide (HB.out.trans ((hb).mono HB.out.size))
  replace I1 := hide (I1.out.below (hb))
  replace V1 := hide (V1.out.step (hb))
  replace S1 := hide (S1.out.step (hb))
  have I2 := hide (n)
  clear hb n hr
  have hV10 := V1.out.cell0
  have hV11 := V1.out.cell1
  have ltV1 := V1.out.lt
  go_wp2_with fail
  clear ltV1
  clear hV10 hV11
  have hg2 := HB.out.size
  have hp2 := P1.out.lt
  have hv2 := S1.out.lt
  have V2 := Box.new u2 (.bool s2) (.slice m2 n2 c2)
  replace V2 := V2.step (below_alloc _ (.cells #[.int .i64 (e2 : Nat), .int .i64 (q2 : Nat)] 30))
  replace V2 := hide V2
  have S2 := BoxS.new (u2.alloc (.cells #[.bool s2, .slice m2 n2 c2] 25)) (.int .i64 (e2 : Nat)) (.int .i64 (q2 : Nat))
  simp only [World.size_alloc] at S2
  replace S2 := hide S2
  have al := below_alloc u2 (.cells #[.bool s2, .slice m2 n2 c2] 25)
  replace al := al.trans ((below_alloc _ (.cells #[.int .i64 (e2 : Nat), .int .i64 (q2 : Nat)] 30)).mono (by simp only [World.size_alloc]; omega))
  replace P0 := hide (P0.out.step (al))
  replace P1 := hide (P1.out.step (al))
  replace HB := hide (HB.out.trans ((al).mono HB.out.size))
  replace I1 := hide (I1.out.below (al))
  replace V1 := hide (V1.out.step (al))
  replace S1 := hide (S1.out.step (al))
  replace I2 := hide (I2.out.below (al))
  clear al
  generalize ((u2.alloc (.cells #[.bool s2, .slice m2 n2 c2] 25)).alloc (.cells #[.int .i64 (e2 : Nat), .int .i64 (q2 : Nat)] 30)) = u2a at *
  generalize u2.heap.size = g2 at *
  have LTS : Hid True := hide trivial
  by_cases hz : z2 = 0
  · refine (rmake_zero _ _ z1 z2 _ I1.out I2.out hz).mono ?_
    rintro e u3 ⟨v, rfl, n, hb⟩
    obtain ⟨s5, m5, n5, c5, t5, o5, p5, d5, rfl, n⟩ := n.cells
    replace P0 := hide (P0.out.step (hb))
    replace P1 := hide (P1.out.step (hb))
    replace HB := hide (HB.out.trans ((hb).mono HB.out.size))
    replace I1 := hide (I1.out.below (hb))
    replace V1 := hide (V1.out.step (hb))
    replace S1 := hide (S1.out.step (hb))
    replace I2 := hide (I2.out.below (hb))
    replace V2 := hide (V2.out.step (hb))
    replace S2 := hide (S2.out.step (hb))
    have TR := hide (n)
    clear hb n
    have SQ := hide (SzR.zero)
    clear hz
    go_upto_region 4 with fail
    have V5 := Box4.new u3 (.bool s5) (.slice m5 n5 c5) (.bool t5) (.slice o5 p5 d5)
    replace V5 := hide V5
    have al := below_alloc u3 (.cells #[.bool s5, .slice m5 n5 c5, .bool t5, .slice o5 p5 d5] 27)
    replace P0 := hide (P0.out.step (al))
    replace P1 := hide (P1.out.step (al))
    replace HB := hide (HB.out.trans ((al).mono HB.out.size))
    replace I1 := hide (I1.out.below (al))
    replace V1 := hide (V1.out.step (al))
    replace S1 := hide (S1.out.step (al))
    replace I2 := hide (I2.out.below (al))
    replace V2 := hide (V2.out.step (al))
    replace S2 := hide (S2.out.step (al))
    replace TR := hide (TR.out.below (al))
    clear al
    generalize (u3.alloc (.cells #[.bool s5, .slice m5 n5 c5, .bool t5, .slice o5 p5 d5] 27)) = u3a at *
    generalize u3.heap.size = g5 at *
    have hS10 := S1.out.cell0
    have hS11 := S1.out.cell1
    have hS20 := S2.out.cell0
    have hS21 := S2.out.cell1
    have hV50 := V5.out.cell0
    have hV51 := V5.out.cell1
    have hV52 := V5.out.cell2
    have hV53 := V5.out.cell3
    have hP10 := P1.out.cell0
    have hP11 := P1.out.cell1
    have hP12 := P1.out.cell2
    have hP13 := P1.out.cell3
    have fP10 := P1.out.free 0
    have fP11 := P1.out.free 1
    have fP12 := P1.out.free 2
    have fP13 := P1.out.free 3
    by_cases h1 : e1 = 0
    · subst h1
      by_cases h2 : e2 = 0
      · subst h2
        go_wp2
        refine ret_rate rfl (w.heap.size + 1) _ _ _ _ rfl (P1.out.put _ _ _ _) rfl ?_
        exact ⟨⟨_, _, _, rfl, TR.out.keep (P1.out.keeps (by simp) (by simp) (by simp) (by simp) _ _ _ _), SQ.out⟩, below_put4 HB.out (by omega) _ _ _ _⟩
      · have hne : ((e2 : Int) == 0) = false := by simp; omega
        go_wp2
        refine ret_rate rfl (w.heap.size + 1) _ _ _ _ rfl (P1.out.put _ _ _ _) rfl ?_
        exact ⟨⟨_, _, _, rfl, TR.out.keep (P1.out.keeps (by simp) (by simp) (by simp) (by simp) _ _ _ _), SQ.out⟩, below_put4 HB.out (by omega) _ _ _ _⟩
    · have hne : ((e1 : Int) == 0) = false := by simp; omega
      go_wp2
      refine ret_rate rfl (w.heap.size + 1) _ _ _ _ rfl (P1.out.put _ _ _ _) rfl ?_
      exact ⟨⟨_, _, _, rfl, TR.out.keep (P1.out.keeps (by simp) (by simp) (by simp) (by simp) _ _ _ _), SQ.out⟩, below_put4 HB.out (by omega) _ _ _ _⟩
  · refine (rmake_any _ _ z1 z2 _ I1.out I2.out (Z1.out.len (by decide)) (Z2.out.len (by decide)) hz).mono ?_
    rintro e u3 ⟨v, rfl, n, hb⟩
    obtain ⟨s5, m5, n5, c5, t5, o5, p5, d5, rfl, n⟩ := n.cells
    replace P0 := hide (P0.out.step (hb))
    replace P1 := hide (P1.out.step (hb))
    replace HB := hide (HB.out.trans ((hb).mono HB.out.size))
    replace I1 := hide (I1.out.below (hb))
    replace V1 := hide (V1.out.step (hb))
    replace S1 := hide (S1.out.step (hb))
    replace I2 := hide (I2.out.below (hb))
    replace V2 := hide (V2.out.step (hb))
    replace S2 := hide (S2.out.step (hb))
    have TR := hide (n)
    clear hb n
    have SQ := hide (show SzR 65536 (Rat.divInt z1 z2) from ⟨(SzR.divInt hz Z1.out Z2.out).1, (SzR.divInt hz Z1.out Z2.out).2⟩)
    have HZ := hide hz
    clear hz
    go_upto_region 4 with fail
    have V5 := Box4.new u3 (.bool s5) (.slice m5 n5 c5) (.bool t5) (.slice o5 p5 d5)
    replace V5 := hide V5
    have al := below_alloc u3 (.cells #[.bool s5, .slice m5 n5 c5, .bool t5, .slice o5 p5 d5] 27)
    replace P0 := hide (P0.out.step (al))
    replace P1 := hide (P1.out.step (al))
    replace HB := hide (HB.out.trans ((al).mono HB.out.size))
    replace I1 := hide (I1.out.below (al))
    replace V1 := hide (V1.out.step (al))
    replace S1 := hide (S1.out.step (al))
    replace I2 := hide (I2.out.below (al))
    replace V2 := hide (V2.out.step (al))
    replace S2 := hide (S2.out.step (al))
    replace TR := hide (TR.out.below (al))
    clear al
    generalize (u3.alloc (.cells #[.bool s5, .slice m5 n5 c5, .bool t5, .slice o5 p5 d5] 27)) = u3a at *
    generalize u3.heap.size = g5 at *
    have hS10 := S1.out.cell0
    have hS11 := S1.out.cell1
    have hS20 := S2.out.cell0
    have hS21 := S2.out.cell1
    have hV50 := V5.out.cell0
    have hV51 := V5.out.cell1
    have hV52 := V5.out.cell2
    have hV53 := V5.out.cell3
    have hP10 := P1.out.cell0
    have hP11 := P1.out.cell1
    have hP12 := P1.out.cell2
    have hP13 := P1.out.cell3
    have fP10 := P1.out.free 0
    have fP11 := P1.out.free 1
    have fP12 := P1.out.free 2
    have fP13 := P1.out.free 3
    by_cases h1 : e1 = 0
    · subst h1
      by_cases h2 : e2 = 0
      · subst h2
        go_wp2
        refine ret_rate rfl (w.heap.size + 1) _ _ _ _ rfl (P1.out.put _ _ _ _) rfl ?_
        exact ⟨⟨_, _, _, rfl, TR.out.keep (P1.out.keeps (by simp) (by simp) (by simp) (by simp) _ _ _ _), SQ.out⟩, below_put4 HB.out (by omega) _ _ _ _⟩
      · have hne : ((e2 : Int) == 0) = false := by simp; omega
        go_wp2
        refine ret_rate rfl (w.heap.size + 1) _ _ _ _ rfl (P1.out.put _ _ _ _) rfl ?_
        exact ⟨⟨_, _, _, rfl, TR.out.keep (P1.out.keeps (by simp) (by simp) (by simp) (by simp) _ _ _ _), SQ.out⟩, below_put4 HB.out (by omega) _ _ _ _⟩
    · have hne : ((e1 : Int) == 0) = false := by simp; omega
      go_wp2
      refine ret_rate rfl (w.heap.size + 1) _ _ _ _ rfl (P1.out.put _ _ _ _) rfl ?_
      exact ⟨⟨_, _, _, rfl, TR.out.keep (P1.out.keeps (by simp) (by simp) (by simp) (by simp) _ _ _ _), SQ.out⟩, below_put4 HB.out (by omega) _ _ _ _⟩
end Go.Proofs.Ytpbfbjipdacbkaa

namespace Go.Proofs.Ytpbfbjipdacbkaa
open Go.RowKit

set_option linter.unusedVariables false

/-- a list of fractions' texts -/
def Fracs (w : World) (v : Value) (n : Nat) : Prop :=
  ∃ b off cap, v = .slice (some ⟨b, off, none⟩) n cap ∧ n ≤ cap ∧ cap ≤ maxLen ∧ ∀ i, i < n → ∃ s t, w.cell? ⟨b, off + i * 2, none⟩ = some (.string s) ∧ w.cell? ⟨b, off + i * 2 + 1, none⟩ = some (.string t) ∧ s.size ≤ 9223372036854775807 ∧ t.size ≤ 9223372036854775807
theorem Fracs.below {w w' : World} {v : Value} {n : Nat} (h : Fracs w v n) (hb : Below w.heap.size w w') : Fracs w' v n := by
  obtain ⟨b, off, cap, rfl, h1, h2, h3⟩ := h
  refine ⟨b, off, cap, rfl, h1, h2, fun i hi => ?_⟩
  obtain ⟨s, t, c1, c2, l1, l2⟩ := h3 i hi
  exact ⟨s, t, (hb.cell (World.block_lt_of_cell? w _ c1)).trans c1, (hb.cell (World.block_lt_of_cell? w _ c2)).trans c2, l1, l2⟩

set_option maxRecDepth 100000 in
set_option maxHeartbeats 400000 in
theorem long1_any (a b : ByteArray) (w : World) (la : a.size ≤ 9223372036854775807) (lb : b.size ≤ 9223372036854775807) :
    Calls Try.prog 69 #[.agg #[.string a, .string b]] w fun e w' => SomeB e ∧ Below w.heap.size w w' := by
  by_cases h : 300 < a.size
  · go_enter Try.func69, Try.ntmps69
    go_wp2
    go_ret
    exact ⟨⟨_, rfl⟩, below_alloc _ _⟩
  · by_cases h' : 300 < b.size
    · go_enter Try.func69, Try.ntmps69
      go_wp2
      go_ret
      exact ⟨⟨_, rfl⟩, below_alloc _ _⟩
    · go_enter Try.func69, Try.ntmps69
      go_wp2
      go_ret
      exact ⟨⟨_, rfl⟩, below_alloc _ _⟩

set_option maxRecDepth 100000 in
set_option maxHeartbeats 1000000 in
theorem indexFunc_any (v : Value) (n : Nat) (w : World) (h : Fracs w v n) :
    Calls Try.prog 98 #[v, .func (.func 69) #[] #[]] w fun e w' => ∃ k : Int, e = .returned (.int .i64 k) ∧ Below w.heap.size w w' := by
  have HF := hide h
  obtain ⟨b, off, cap, rfl, h1, h2, _⟩ := h
  unfold maxLen at h2
  go_enter Try.func98, Try.ntmps98
  go_wp2
  go_loopw [5, 8] (fun _ iv wr => ∃ k : Nat, k ≤ n ∧ iv = .int .i64 k ∧ Below w.heap.size w wr) (fun _ iv _ => n - (intOf iv).toNat)
  case atStart => exact ⟨0, Nat.zero_le _, rfl, Below.refl _ _⟩
  case round =>
    obtain ⟨k, hk, rfl, hb⟩ := hrel
    have HB := hide hb
    clear hb
    by_cases hlt : k < n
    · obtain ⟨b', off', cap', he, _, _, h3⟩ := HF.out.below HB.out
      simp only [Value.slice.injEq, Option.some.injEq, Addr.mk.injEq, and_true, true_and] at he
      obtain ⟨⟨rfl, rfl⟩, rfl⟩ := he
      obtain ⟨s, t, c1, c2, l1, l2⟩ := h3 k hlt
      clear h3
      have hltI : (k : Int) < (n : Int) := by omega
      go_wp2_with fail
      refine (long1_any s t _ l1 l2).mono ?_
      rintro e w1 ⟨⟨r, rfl⟩, hb⟩
      replace HB := hide (HB.out.trans (hb.mono HB.out.size))
      clear hb c1 c2
      cases r with
      | true =>
        go_wp2
        go_ret
        exact ⟨_, rfl, HB.out⟩
      | false =>
        go_wp2
        go_roundw
        case rel => exact ⟨k + 1, by omega, by go_num, HB.out⟩
        case measure => simp [intOf]; omega
    · go_wp2
      go_ret
      exact ⟨_, rfl, HB.out⟩

set_option maxRecDepth 100000 in
set_option maxHeartbeats 400000 in
theorem containsFunc_any (v : Value) (n : Nat) (w : World) (h : Fracs w v n) :
    Calls Try.prog 68 #[v, .func (.func 69) #[] #[]] w fun e w' => SomeB e ∧ Below w.heap.size w w' := by
  go_enter Try.func68, Try.ntmps68
  go_wp2_with fail
  refine (indexFunc_any v n _ h).mono ?_
  rintro e w1 ⟨k, rfl, hb⟩
  go_wp2
  go_ret
  exact ⟨⟨_, rfl⟩, hb⟩

set_option maxRecDepth 100000 in
set_option maxHeartbeats 400000 in
theorem long3_any (v : Value) (n : Nat) (w : World) (h : Fracs w v n) :
    Calls Try.prog 27 #[v] w fun e w' => SomeB e ∧ Below w.heap.size w w' := by
  have HF := hide h
  obtain ⟨b, off, cap, rfl, h1, h2, _⟩ := h
  unfold maxLen at h2
  by_cases hn : 12 < n
  · go_enter Try.func27, Try.ntmps27
    go_wp2
    go_ret
    exact ⟨⟨_, rfl⟩, Below.refl _ _⟩
  · go_enter Try.func27, Try.ntmps27
    go_wp2_with fail
    refine (containsFunc_any _ n _ HF.out).mono ?_
    rintro e w1 ⟨⟨k, rfl⟩, hb⟩
    go_wp2
    go_ret
    exact ⟨⟨_, rfl⟩, hb⟩

/-- three fractions' texts side by side -/
theorem fracs_lit3 {w : World} {t : TypeId} {a b c d e f : ByteArray} (ha : a.size ≤ 9223372036854775807) (hb : b.size ≤ 9223372036854775807) (hc : c.size ≤ 9223372036854775807) (hd : d.size ≤ 9223372036854775807) (he : e.size ≤ 9223372036854775807) (hf : f.size ≤ 9223372036854775807) :
    Fracs (w.alloc (.cells #[.string a, .string b, .string c, .string d, .string e, .string f] t)) (.slice (some ⟨w.heap.size, 0, none⟩) 3 3) 3 := by
  refine ⟨w.heap.size, 0, 3, rfl, by simp, by simp [maxLen], fun i hi => ?_⟩
  match i, hi with
  | 0, _ => exact ⟨a, b, by simp, by simp, ha, hb⟩
  | 1, _ => exact ⟨c, d, by simp, by simp, hc, hd⟩
  | 2, _ => exact ⟨e, f, by simp, by simp, he, hf⟩
end Go.Proofs.Ytpbfbjipdacbkaa

namespace Go.Proofs.Ytpbfbjipdacbkaa
open Go.RowKit

/-- some three fractions, not too great, and a truth -/
def SomeQ3 (e : Ending) (w : World) : Prop := ∃ v1 v2 v3 x y z ok, e = .returned (.tuple #[v1, v2, v3, .bool ok]) ∧ RatAt w v1 x ∧ RatAt w v2 y ∧ RatAt w v3 z ∧ SzR 65536 x ∧ SzR 65536 y ∧ SzR 65536 z

theorem ret_three {fn : Func} {R : Ending → World → Prop} {a : Act} {w : World} {p p' p'' k : Tmp} (h : fn.results = #[.cell p 27, .cell p' 27, .cell p'' 27, .tmp k]) (g g' g'' : Nat) (x y u v x' y' u' v' x'' y'' u'' v'' : Value) (b : Bool)
    (hp : a.tmps.getD p undef = .pointer (some ⟨g, 0, none⟩)) (hp' : a.tmps.getD p' undef = .pointer (some ⟨g', 0, none⟩)) (hp'' : a.tmps.getD p'' undef = .pointer (some ⟨g'', 0, none⟩)) (hk : a.tmps.getD k undef = .bool b)
    (hg : Box4 w g x y u v) (hg' : Box4 w g' x' y' u' v') (hg'' : Box4 w g'' x'' y'' u'' v'') (hd : a.defers = []) (hR : R (.returned (.tuple #[.agg #[x, y, u, v], .agg #[x', y', u', v'], .agg #[x'', y'', u'', v''], .bool b])) w) : bodyPost Try.prog fn R .ret a w := by
  refine bodyPost_ret ?_ hd hR
  have q : a.tmps[p]?.getD undef = .pointer (some ⟨g, 0, none⟩) := by simpa using hp
  have q' : a.tmps[p']?.getD undef = .pointer (some ⟨g', 0, none⟩) := by simpa using hp'
  have q'' : a.tmps[p'']?.getD undef = .pointer (some ⟨g'', 0, none⟩) := by simpa using hp''
  have qk : a.tmps[k]?.getD undef = .bool b := by simpa using hk
  simp [results, h, q, q', q'', qk, asAddr, run_loadVar_row w g 27 27 #[x, y, u, v] (0, 0) _ hg Try.underlying27 rfl Try.infoRat, run_loadVar_row w g' 27 27 #[x', y', u', v'] (0, 0) _ hg' Try.underlying27 rfl Try.infoRat, run_loadVar_row w g'' 27 27 #[x'', y'', u'', v''] (0, 0) _ hg'' Try.underlying27 rfl Try.infoRat]

set_option maxRecDepth 100000 in
set_option maxHeartbeats 16000000 in
theorem three_any (b0 b1 b2 b3 b4 b5 : ByteArray) (w : World) (l0 : b0.size ≤ 9223372036854775807) (l1 : b1.size ≤ 9223372036854775807) (l2 : b2.size ≤ 9223372036854775807) (l3 : b3.size ≤ 9223372036854775807) (l4 : b4.size ≤ 9223372036854775807) (l5 : b5.size ≤ 9223372036854775807) :
    Calls Try.prog 51 #[.agg #[.string b0, .string b1], .agg #[.string b2, .string b3], .agg #[.string b4, .string b5]] w fun e w' => SomeQ3 e w' ∧ Below w.heap.size w w' := by
  have P0 := BoxF.new w (.string b0) (.string b1)
  replace P0 := P0.step (below_alloc _ (.cells #[.string b2, .string b3] 51))
  replace P0 := P0.step (below_alloc _ (.cells #[.string b4, .string b5] 51))
  replace P0 := P0.step (below_alloc _ (.cells #[.bool false, .slice none 0 0, .bool false, .slice none 0 0] 27))
  replace P0 := P0.step (below_alloc _ (.cells #[.bool false, .slice none 0 0, .bool false, .slice none 0 0] 27))
  replace P0 := P0.step (below_alloc _ (.cells #[.bool false, .slice none 0 0, .bool false, .slice none 0 0] 27))
  replace P0 := hide P0
  have P1 := BoxF.new (w.alloc (.cells #[.string b0, .string b1] 51)) (.string b2) (.string b3)
  simp only [World.size_alloc] at P1
  replace P1 := P1.step (below_alloc _ (.cells #[.string b4, .string b5] 51))
  replace P1 := P1.step (below_alloc _ (.cells #[.bool false, .slice none 0 0, .bool false, .slice none 0 0] 27))
  replace P1 := P1.step (below_alloc _ (.cells #[.bool false, .slice none 0 0, .bool false, .slice none 0 0] 27))
  replace P1 := P1.step (below_alloc _ (.cells #[.bool false, .slice none 0 0, .bool false, .slice none 0 0] 27))
  replace P1 := hide P1
  have P2 := BoxF.new ((w.alloc (.cells #[.string b0, .string b1] 51)).alloc (.cells #[.string b2, .string b3] 51)) (.string b4) (.string b5)
  simp only [World.size_alloc] at P2
  replace P2 := P2.step (below_alloc _ (.cells #[.bool false, .slice none 0 0, .bool false, .slice none 0 0] 27))
  replace P2 := P2.step (below_alloc _ (.cells #[.bool false, .slice none 0 0, .bool false, .slice none 0 0] 27))
  replace P2 := P2.step (below_alloc _ (.cells #[.bool false, .slice none 0 0, .bool false, .slice none 0 0] 27))
  replace P2 := hide P2
  have R0 := Box4.new (((w.alloc (.cells #[.string b0, .string b1] 51)).alloc (.cells #[.string b2, .string b3] 51)).alloc (.cells #[.string b4, .string b5] 51)) (.bool false) (.slice none 0 0) (.bool false) (.slice none 0 0)
  simp only [World.size_alloc] at R0
  replace R0 := R0.step (below_alloc _ (.cells #[.bool false, .slice none 0 0, .bool false, .slice none 0 0] 27))
  replace R0 := R0.step (below_alloc _ (.cells #[.bool false, .slice none 0 0, .bool false, .slice none 0 0] 27))
  replace R0 := hide R0
  have R1 := Box4.new ((((w.alloc (.cells #[.string b0, .string b1] 51)).alloc (.cells #[.string b2, .string b3] 51)).alloc (.cells #[.string b4, .string b5] 51)).alloc (.cells #[.bool false, .slice none 0 0, .bool false, .slice none 0 0] 27)) (.bool false) (.slice none 0 0) (.bool false) (.slice none 0 0)
  simp only [World.size_alloc] at R1
  replace R1 := R1.step (below_alloc _ (.cells #[.bool false, .slice none 0 0, .bool false, .slice none 0 0] 27))
  replace R1 := hide R1
  have R2 := Box4.new (((((w.alloc (.cells #[.string b0, .string b1] 51)).alloc (.cells #[.string b2, .string b3] 51)).alloc (.cells #[.string b4, .string b5] 51)).alloc (.cells #[.bool false, .slice none 0 0, .bool false, .slice none 0 0] 27)).alloc (.cells #[.bool false, .slice none 0 0, .bool false, .slice none 0 0] 27)) (.bool false) (.slice none 0 0) (.bool false) (.slice none 0 0)
  simp only [World.size_alloc] at R2
  replace R2 := hide R2
  have HB := below_alloc w (.cells #[.string b0, .string b1] 51)
  replace HB := HB.trans ((below_alloc _ (.cells #[.string b2, .string b3] 51)).mono (by simp only [World.size_alloc]; omega))
  replace HB := HB.trans ((below_alloc _ (.cells #[.string b4, .string b5] 51)).mono (by simp only [World.size_alloc]; omega))
  replace HB := HB.trans ((below_alloc _ (.cells #[.bool false, .slice none 0 0, .bool false, .slice none 0 0] 27)).mono (by simp only [World.size_alloc]; omega))
  replace HB := HB.trans ((below_alloc _ (.cells #[.bool false, .slice none 0 0, .bool false, .slice none 0 0] 27)).mono (by simp only [World.size_alloc]; omega))
  replace HB := HB.trans ((below_alloc _ (.cells #[.bool false, .slice none 0 0, .bool false, .slice none 0 0] 27)).mono (by simp only [World.size_alloc]; omega))
  replace HB := hide HB
  go_enter Try.func51, Try.ntmps51
  go_wp2_with fail
  generalize ((((((w.alloc (.cells #[.string b0, .string b1] 51)).alloc (.cells #[.string b2, .string b3] 51)).alloc (.cells #[.string b4, .string b5] 51)).alloc (.cells #[.bool false, .slice none 0 0, .bool false, .slice none 0 0] 27)).alloc (.cells #[.bool false, .slice none 0 0, .bool false, .slice none 0 0] 27)).alloc (.cells #[.bool false, .slice none 0 0, .bool false, .slice none 0 0] 27)) = w0 at *
  refine (alone_any b0 b1 _ l0 l1).mono ?_
  rintro e u1 ⟨⟨v, x, k0, rfl, n, hsz⟩, hb⟩
  obtain ⟨s7, m7, n7, c7, t7, o7, p7, d7, rfl, n⟩ := n.cells
  have Z0 := hide hsz
  replace P0 := hide (P0.out.step (hb))
  replace P1 := hide (P1.out.step (hb))
  replace P2 := hide (P2.out.step (hb))
  replace R0 := hide (R0.out.step (hb))
  replace R1 := hide (R1.out.step (hb))
  replace R2 := hide (R2.out.step (hb))
  replace HB := hide (HB.out.trans ((hb).mono HB.out.size))
  have I0 := hide (n)
  clear hb n hsz
  have hP10 := P1.out.cell0
  have hP11 := P1.out.cell1
  have ltP1 := P1.out.lt
  go_wp2_with fail
  clear ltP1
  clear hP10 hP11
  have hx0 := R2.out.lt
  have V0 := Box4.new u1 (.bool s7) (.slice m7 n7 c7) (.bool t7) (.slice o7 p7 d7)
  replace V0 := hide V0
  have al := below_alloc u1 (.cells #[.bool s7, .slice m7 n7 c7, .bool t7, .slice o7 p7 d7] 27)
  replace P0 := hide (P0.out.step (al))
  replace P1 := hide (P1.out.step (al))
  replace P2 := hide (P2.out.step (al))
  replace R0 := hide (R0.out.step (al))
  replace R1 := hide (R1.out.step (al))
  replace R2 := hide (R2.out.step (al))
  replace HB := hide (HB.out.trans ((al).mono HB.out.size))
  replace I0 := hide (I0.out.below (al))
  clear al
  generalize (u1.alloc (.cells #[.bool s7, .slice m7 n7 c7, .bool t7, .slice o7 p7 d7] 27)) = u1a at *
  generalize u1.heap.size = ga at *
  refine (alone_any b2 b3 _ l2 l3).mono ?_
  rintro e u2 ⟨⟨v, y, k1, rfl, n, hsz⟩, hb⟩
  obtain ⟨s8, m8, n8, c8, t8, o8, p8, d8, rfl, n⟩ := n.cells
  have Z1 := hide hsz
  replace P0 := hide (P0.out.step (hb))
  replace P1 := hide (P1.out.step (hb))
  replace P2 := hide (P2.out.step (hb))
  replace R0 := hide (R0.out.step (hb))
  replace R1 := hide (R1.out.step (hb))
  replace R2 := hide (R2.out.step (hb))
  replace HB := hide (HB.out.trans ((hb).mono HB.out.size))
  replace I0 := hide (I0.out.below (hb))
  replace V0 := hide (V0.out.step (hb))
  have I1 := hide (n)
  clear hb n hsz
  have hP20 := P2.out.cell0
  have hP21 := P2.out.cell1
  have ltP2 := P2.out.lt
  go_wp2_with fail
  clear ltP2
  clear hP20 hP21
  have hx1 := R2.out.lt
  have V1 := Box4.new u2 (.bool s8) (.slice m8 n8 c8) (.bool t8) (.slice o8 p8 d8)
  replace V1 := hide V1
  have al := below_alloc u2 (.cells #[.bool s8, .slice m8 n8 c8, .bool t8, .slice o8 p8 d8] 27)
  replace P0 := hide (P0.out.step (al))
  replace P1 := hide (P1.out.step (al))
  replace P2 := hide (P2.out.step (al))
  replace R0 := hide (R0.out.step (al))
  replace R1 := hide (R1.out.step (al))
  replace R2 := hide (R2.out.step (al))
  replace HB := hide (HB.out.trans ((al).mono HB.out.size))
  replace I0 := hide (I0.out.below (al))
  replace V0 := hide (V0.out.step (al))
  replace I1 := hide (I1.out.below (al))
  clear al
  generalize (u2.alloc (.cells #[.bool s8, .slice m8 n8 c8, .bool t8, .slice o8 p8 d8] 27)) = u2a at *
  generalize u2.heap.size = gb at *
  refine (alone_any b4 b5 _ l4 l5).mono ?_
  rintro e u3 ⟨⟨v, z, k2, rfl, n, hsz⟩, hb⟩
  obtain ⟨s9, m9, n9, c9, t9, o9, p9, d9, rfl, n⟩ := n.cells
  have Z2 := hide hsz
  replace P0 := hide (P0.out.step (hb))
  replace P1 := hide (P1.out.step (hb))
  replace P2 := hide (P2.out.step (hb))
  replace R0 := hide (R0.out.step (hb))
  replace R1 := hide (R1.out.step (hb))
  replace R2 := hide (R2.out.step (hb))
  replace HB := hide (HB.out.trans ((hb).mono HB.out.size))
  replace I0 := hide (I0.out.below (hb))
  replace V0 := hide (V0.out.step (hb))
  replace I1 := hide (I1.out.below (hb))
  replace V1 := hide (V1.out.step (hb))
  have I2 := hide (n)
  clear hb n hsz
  go_wp2_with fail
  have hx2 := R2.out.lt
  have V2 := Box4.new u3 (.bool s9) (.slice m9 n9 c9) (.bool t9) (.slice o9 p9 d9)
  replace V2 := hide V2
  have al := below_alloc u3 (.cells #[.bool s9, .slice m9 n9 c9, .bool t9, .slice o9 p9 d9] 27)
  replace P0 := hide (P0.out.step (al))
  replace P1 := hide (P1.out.step (al))
  replace P2 := hide (P2.out.step (al))
  replace R0 := hide (R0.out.step (al))
  replace R1 := hide (R1.out.step (al))
  replace R2 := hide (R2.out.step (al))
  replace HB := hide (HB.out.trans ((al).mono HB.out.size))
  replace I0 := hide (I0.out.below (al))
  replace V0 := hide (V0.out.step (al))
  replace I1 := hide (I1.out.below (al))
  replace V1 := hide (V1.out.step (al))
  replace I2 := hide (I2.out.below (al))
  clear al
  generalize (u3.alloc (.cells #[.bool s9, .slice m9 n9 c9, .bool t9, .slice o9 p9 d9] 27)) = u3a at *
  generalize u3.heap.size = gc at *
  have LTS := hide (And.intro hx0 (And.intro hx1 hx2))
  clear hx0 hx1 hx2
  cases k0 with
  | false =>
    replace R0 := hide R0.out.drew
    replace R1 := hide R1.out.drew
    replace R2 := hide R2.out.drew
    refine wp_calm (fun w' => Below w.heap.size w w' ∧ BoxF w' w.heap.size (.string b0) (.string b1) ∧ BoxF w' (w.heap.size + 1) (.string b2) (.string b3) ∧ BoxF w' (w.heap.size + 1 + 1) (.string b4) (.string b5) ∧ Box4 w' ga (.bool s7) (.slice m7 n7 c7) (.bool t7) (.slice o7 p7 d7) ∧ Box4 w' gb (.bool s8) (.slice m8 n8 c8) (.bool t8) (.slice o8 p8 d8) ∧ Box4 w' gc (.bool s9) (.slice m9 n9 c9) (.bool t9) (.slice o9 p9 d9) ∧ RatAt w' (.agg #[.bool s7, .slice m7 n7 c7, .bool t7, .slice o7 p7 d7]) x ∧ RatAt w' (.agg #[.bool s8, .slice m8 n8 c8, .bool t8, .slice o8 p8 d8]) y ∧ RatAt w' (.agg #[.bool s9, .slice m9 n9 c9, .bool t9, .slice o9 p9 d9]) z) (fun _ => true) 22 #[false, false, false, false, false, false, false, false, false, false, false, false, false, false, false, false, false, false, false, false, false, false] (by kernel_rfl) rfl rfl ?_
    have HF := hide (And.intro (HB.out.drew) (And.intro (P0.out.drew) (And.intro (P1.out.drew) (And.intro (P2.out.drew) (And.intro (V0.out.drew) (And.intro (V1.out.drew) (And.intro (V2.out.drew) (And.intro (I0.out.drew) (And.intro (I1.out.drew) (I2.out.drew))))))))))
    generalize u3a.drew = u3ad at *
    refine Calm.take (i := 0) (v := ?_) (a' := ?_) (l' := #[true, false, false, false, false, false, false, false, false, false, false, false, false, false, false, false, false, false, false, false, false, false]) (d := some 31) rfl (by kernel_rfl) (by kernel_rfl) (by kernel_rfl) (by kernel_rfl) (fun _ _ _ h => h) HF.out rfl ?_ rfl rfl ?_ ?_
    rotate_left
    · intro w' hF; have f10 := hF.2.1.cell0; have f11 := hF.2.1.cell1; have f20 := hF.2.2.1.cell0; have f21 := hF.2.2.1.cell1; have f30 := hF.2.2.2.1.cell0; have f31 := hF.2.2.2.1.cell1; have f40 := hF.2.2.2.2.1.cell0; have f41 := hF.2.2.2.2.1.cell1; have f42 := hF.2.2.2.2.1.cell2; have f43 := hF.2.2.2.2.1.cell3; have f50 := hF.2.2.2.2.2.1.cell0; have f51 := hF.2.2.2.2.2.1.cell1; have f52 := hF.2.2.2.2.2.1.cell2; have f53 := hF.2.2.2.2.2.1.cell3; have f60 := hF.2.2.2.2.2.2.1.cell0; have f61 := hF.2.2.2.2.2.2.1.cell1; have f62 := hF.2.2.2.2.2.2.1.cell2; have f63 := hF.2.2.2.2.2.2.1.cell3; clear hF; go_simp; try rfl
    rotate_left
    · simp only [Act.put]; exact rfl
    refine Calm.take (i := 1) (v := ?_) (a' := ?_) (l' := #[true, true, false, false, false, false, false, false, false, false, false, false, false, false, false, false, false, false, false, false, false, false]) (d := some 32) rfl (by kernel_rfl) (by kernel_rfl) (by kernel_rfl) (by kernel_rfl) (fun _ _ _ h => h) HF.out rfl ?_ rfl rfl ?_ ?_
    rotate_left
    · intro w' hF; have f10 := hF.2.1.cell0; have f11 := hF.2.1.cell1; have f20 := hF.2.2.1.cell0; have f21 := hF.2.2.1.cell1; have f30 := hF.2.2.2.1.cell0; have f31 := hF.2.2.2.1.cell1; have f40 := hF.2.2.2.2.1.cell0; have f41 := hF.2.2.2.2.1.cell1; have f42 := hF.2.2.2.2.1.cell2; have f43 := hF.2.2.2.2.1.cell3; have f50 := hF.2.2.2.2.2.1.cell0; have f51 := hF.2.2.2.2.2.1.cell1; have f52 := hF.2.2.2.2.2.1.cell2; have f53 := hF.2.2.2.2.2.1.cell3; have f60 := hF.2.2.2.2.2.2.1.cell0; have f61 := hF.2.2.2.2.2.2.1.cell1; have f62 := hF.2.2.2.2.2.2.1.cell2; have f63 := hF.2.2.2.2.2.2.1.cell3; clear hF; go_simp; try rfl
    rotate_left
    · simp only [Act.put]; exact rfl
    refine Calm.take (i := 2) (v := ?_) (a' := ?_) (l' := #[true, true, true, false, false, false, false, false, false, false, false, false, false, false, false, false, false, false, false, false, false, false]) (d := some 33) rfl (by kernel_rfl) (by kernel_rfl) (by kernel_rfl) (by kernel_rfl) (fun _ _ _ h => h) HF.out rfl ?_ rfl rfl ?_ ?_
    rotate_left
    · intro w' hF; have f10 := hF.2.1.cell0; have f11 := hF.2.1.cell1; have f20 := hF.2.2.1.cell0; have f21 := hF.2.2.1.cell1; have f30 := hF.2.2.2.1.cell0; have f31 := hF.2.2.2.1.cell1; have f40 := hF.2.2.2.2.1.cell0; have f41 := hF.2.2.2.2.1.cell1; have f42 := hF.2.2.2.2.1.cell2; have f43 := hF.2.2.2.2.1.cell3; have f50 := hF.2.2.2.2.2.1.cell0; have f51 := hF.2.2.2.2.2.1.cell1; have f52 := hF.2.2.2.2.2.1.cell2; have f53 := hF.2.2.2.2.2.1.cell3; have f60 := hF.2.2.2.2.2.2.1.cell0; have f61 := hF.2.2.2.2.2.2.1.cell1; have f62 := hF.2.2.2.2.2.2.1.cell2; have f63 := hF.2.2.2.2.2.2.1.cell3; clear hF; go_simp; try rfl
    rotate_left
    · simp only [Act.put]; exact rfl
    refine Calm.take (i := 3) (v := ?_) (a' := ?_) (l' := #[true, true, true, true, false, false, false, false, false, false, false, false, false, false, false, false, false, false, false, false, false, false]) (d := some 34) rfl (by kernel_rfl) (by kernel_rfl) (by kernel_rfl) (by kernel_rfl) (fun _ _ _ h => h) HF.out rfl ?_ rfl rfl ?_ ?_
    rotate_left
    · intro w' hF; clear hF; go_simp; try rfl
    rotate_left
    · simp only [Act.put]; exact rfl
    refine Calm.take (i := 4) (v := ?_) (a' := ?_) (l' := #[true, true, true, true, true, false, false, false, false, false, false, false, false, false, false, false, false, false, false, false, false, false]) (d := some 35) rfl (by kernel_rfl) (by kernel_rfl) (by kernel_rfl) (by kernel_rfl) (fun _ _ _ h => h) HF.out rfl ?_ rfl rfl ?_ ?_
    rotate_left
    · intro w' hF; clear hF; go_simp; try rfl
    rotate_left
    · simp only [Act.put]; exact rfl
    refine Calm.skip3 (i := 5) (a' := ?_) (l' := #[true, true, true, true, true, true, false, false, false, false, false, false, false, false, false, false, false, false, false, false, false, false]) (d := some 36) rfl (by kernel_rfl) (by kernel_rfl) (by kernel_rfl) (by kernel_rfl) (fun _ _ _ h => h) HF.out (by kernel_rfl) rfl rfl ?_ ?_
    rotate_left
    · simp only [Act.put]; exact rfl
    refine Calm.take (i := 6) (v := ?_) (a' := ?_) (l' := #[true, true, true, true, true, true, true, false, false, false, false, false, false, false, false, false, false, false, false, false, false, false]) (d := some 37) rfl (by kernel_rfl) (by kernel_rfl) (by kernel_rfl) (by kernel_rfl) (fun _ _ _ h => h) HF.out rfl ?_ rfl rfl ?_ ?_
    rotate_left
    · intro w' hF; clear hF; go_simp; try rfl
    rotate_left
    · simp only [Act.put]; exact rfl
    refine Calm.take (i := 7) (v := ?_) (a' := ?_) (l' := #[true, true, true, true, true, true, true, true, false, false, false, false, false, false, false, false, false, false, false, false, false, false]) (d := some 38) rfl (by kernel_rfl) (by kernel_rfl) (by kernel_rfl) (by kernel_rfl) (fun _ _ _ h => h) HF.out rfl ?_ rfl rfl ?_ ?_
    rotate_left
    · intro w' hF; clear hF; go_simp; try rfl
    rotate_left
    · simp only [Act.put]; exact rfl
    refine Calm.skip3 (i := 8) (a' := ?_) (l' := #[true, true, true, true, true, true, true, true, true, false, false, false, false, false, false, false, false, false, false, false, false, false]) (d := some 39) rfl (by kernel_rfl) (by kernel_rfl) (by kernel_rfl) (by kernel_rfl) (fun _ _ _ h => h) HF.out (by kernel_rfl) rfl rfl ?_ ?_
    rotate_left
    · simp only [Act.put]; exact rfl
    refine Calm.take (i := 9) (v := ?_) (a' := ?_) (l' := #[true, true, true, true, true, true, true, true, true, true, false, false, false, false, false, false, false, false, false, false, false, false]) (d := some 40) rfl (by kernel_rfl) (by kernel_rfl) (by kernel_rfl) (by kernel_rfl) (fun _ _ _ h => h) HF.out rfl ?_ rfl rfl ?_ ?_
    rotate_left
    · intro w' hF; clear hF; go_simp; try rfl
    rotate_left
    · simp only [Act.put]; exact rfl
    refine Calm.take (i := 10) (v := ?_) (a' := ?_) (l' := #[true, true, true, true, true, true, true, true, true, true, true, false, false, false, false, false, false, false, false, false, false, false]) (d := some 41) rfl (by kernel_rfl) (by kernel_rfl) (by kernel_rfl) (by kernel_rfl) (fun _ _ _ h => h) HF.out rfl ?_ rfl rfl ?_ ?_
    rotate_left
    · intro w' hF; clear hF; go_simp; try rfl
    rotate_left
    · simp only [Act.put]; exact rfl
    refine Calm.skip3 (i := 11) (a' := ?_) (l' := #[true, true, true, true, true, true, true, true, true, true, true, true, false, false, false, false, false, false, false, false, false, false]) (d := some 42) rfl (by kernel_rfl) (by kernel_rfl) (by kernel_rfl) (by kernel_rfl) (fun _ _ _ h => h) HF.out (by kernel_rfl) rfl rfl ?_ ?_
    rotate_left
    · simp only [Act.put]; exact rfl
    refine Calm.skip3 (i := 12) (a' := ?_) (l' := #[true, true, true, true, true, true, true, true, true, true, true, true, true, false, false, false, false, false, false, false, false, false]) (d := some 43) rfl (by kernel_rfl) (by kernel_rfl) (by kernel_rfl) (by kernel_rfl) (fun _ _ _ h => h) HF.out (by kernel_rfl) rfl rfl ?_ ?_
    rotate_left
    · simp only [Act.put]; exact rfl
    refine Calm.skip3 (i := 13) (a' := ?_) (l' := #[true, true, true, true, true, true, true, true, true, true, true, true, true, true, false, false, false, false, false, false, false, false]) (d := some 44) rfl (by kernel_rfl) (by kernel_rfl) (by kernel_rfl) (by kernel_rfl) (fun _ _ _ h => h) HF.out (by kernel_rfl) rfl rfl ?_ ?_
    rotate_left
    · simp only [Act.put]; exact rfl
    refine Calm.skip3 (i := 14) (a' := ?_) (l' := #[true, true, true, true, true, true, true, true, true, true, true, true, true, true, true, false, false, false, false, false, false, false]) (d := some 45) rfl (by kernel_rfl) (by kernel_rfl) (by kernel_rfl) (by kernel_rfl) (fun _ _ _ h => h) HF.out (by kernel_rfl) rfl rfl ?_ ?_
    rotate_left
    · simp only [Act.put]; exact rfl
    refine Calm.skip3 (i := 15) (a' := ?_) (l' := #[true, true, true, true, true, true, true, true, true, true, true, true, true, true, true, true, false, false, false, false, false, false]) (d := some 46) rfl (by kernel_rfl) (by kernel_rfl) (by kernel_rfl) (by kernel_rfl) (fun _ _ _ h => h) HF.out (by kernel_rfl) rfl rfl ?_ ?_
    rotate_left
    · simp only [Act.put]; exact rfl
    refine Calm.skip3 (i := 16) (a' := ?_) (l' := #[true, true, true, true, true, true, true, true, true, true, true, true, true, true, true, true, true, false, false, false, false, false]) (d := some 47) rfl (by kernel_rfl) (by kernel_rfl) (by kernel_rfl) (by kernel_rfl) (fun _ _ _ h => h) HF.out (by kernel_rfl) rfl rfl ?_ ?_
    rotate_left
    · simp only [Act.put]; exact rfl
    refine Calm.take (i := 17) (v := ?_) (a' := ?_) (l' := #[true, true, true, true, true, true, true, true, true, true, true, true, true, true, true, true, true, true, false, false, false, false]) (d := some 48) rfl (by kernel_rfl) (by kernel_rfl) (by kernel_rfl) (by kernel_rfl) (fun _ _ _ h => h) HF.out rfl ?_ rfl rfl ?_ ?_
    rotate_left
    · intro w' hF; clear hF; go_simp; try rfl
    rotate_left
    · simp only [Act.put]; exact rfl
    refine Calm.one (i := 18) (l' := #[true, true, true, true, true, true, true, true, true, true, true, true, true, true, true, true, true, true, true, false, false, false]) (by kernel_rfl) rfl rfl rfl fun K hK => ?_
    have hc0 := R0.out.cell0
    have hc1 := R0.out.cell1
    have hc2 := R0.out.cell2
    have hc3 := R0.out.cell3
    have hf0 := R0.out.free 0
    have hf1 := R0.out.free 1
    have hf2 := R0.out.free 2
    have hf3 := R0.out.free 3
    go_simp
    have HF' := hide (And.intro (below_put4 HF.out.1 (show w.heap.size ≤ (w.heap.size + 1 + 1 + 1) by have hx := LTS.out; omega) (.bool s7) (.slice m7 n7 c7) (.bool t7) (.slice o7 p7 d7)) (And.intro (HF.out.2.1.other4 (C := (w.heap.size + 1 + 1 + 1)) (by have hx := LTS.out; omega) (.bool s7) (.slice m7 n7 c7) (.bool t7) (.slice o7 p7 d7)) (And.intro (HF.out.2.2.1.other4 (C := (w.heap.size + 1 + 1 + 1)) (by have hx := LTS.out; omega) (.bool s7) (.slice m7 n7 c7) (.bool t7) (.slice o7 p7 d7)) (And.intro (HF.out.2.2.2.1.other4 (C := (w.heap.size + 1 + 1 + 1)) (by have hx := LTS.out; omega) (.bool s7) (.slice m7 n7 c7) (.bool t7) (.slice o7 p7 d7)) (And.intro (HF.out.2.2.2.2.1.other4 (C := (w.heap.size + 1 + 1 + 1)) (by have hx := LTS.out; omega) (.bool s7) (.slice m7 n7 c7) (.bool t7) (.slice o7 p7 d7)) (And.intro (HF.out.2.2.2.2.2.1.other4 (C := (w.heap.size + 1 + 1 + 1)) (by have hx := LTS.out; omega) (.bool s7) (.slice m7 n7 c7) (.bool t7) (.slice o7 p7 d7)) (And.intro (HF.out.2.2.2.2.2.2.1.other4 (C := (w.heap.size + 1 + 1 + 1)) (by have hx := LTS.out; omega) (.bool s7) (.slice m7 n7 c7) (.bool t7) (.slice o7 p7 d7)) (And.intro (HF.out.2.2.2.2.2.2.2.1.keep (R0.out.keeps (by simp) (by simp) (by simp) (by simp) (.bool s7) (.slice m7 n7 c7) (.bool t7) (.slice o7 p7 d7))) (And.intro (HF.out.2.2.2.2.2.2.2.2.1.keep (R0.out.keeps (by simp) (by simp) (by simp) (by simp) (.bool s7) (.slice m7 n7 c7) (.bool t7) (.slice o7 p7 d7))) (HF.out.2.2.2.2.2.2.2.2.2.keep (R0.out.keeps (by simp) (by simp) (by simp) (by simp) (.bool s7) (.slice m7 n7 c7) (.bool t7) (.slice o7 p7 d7))))))))))))
    replace R1 := hide (R1.out.other4 (C := (w.heap.size + 1 + 1 + 1)) (by have hx := LTS.out; omega) (.bool s7) (.slice m7 n7 c7) (.bool t7) (.slice o7 p7 d7))
    replace R2 := hide (R2.out.other4 (C := (w.heap.size + 1 + 1 + 1)) (by have hx := LTS.out; omega) (.bool s7) (.slice m7 n7 c7) (.bool t7) (.slice o7 p7 d7))
    replace R0 := hide (R0.out.put (.bool s7) (.slice m7 n7 c7) (.bool t7) (.slice o7 p7 d7))
    refine hK _ _ (fun _ => HF'.out) ?_
    clear hK K HF hc0 hf0 hc1 hf1 hc2 hf2 hc3 hf3
    have HF := hide HF'.out
    clear HF'
    generalize ((((u3ad.setCell ⟨(w.heap.size + 1 + 1 + 1), 0, none⟩ (.bool s7)).setCell ⟨(w.heap.size + 1 + 1 + 1), 1, none⟩ (.slice m7 n7 c7)).setCell ⟨(w.heap.size + 1 + 1 + 1), 2, none⟩ (.bool t7)).setCell ⟨(w.heap.size + 1 + 1 + 1), 3, none⟩ (.slice o7 p7 d7)) = ws0 at *
    refine Calm.one (i := 19) (l' := #[true, true, true, true, true, true, true, true, true, true, true, true, true, true, true, true, true, true, true, true, false, false]) (by kernel_rfl) rfl rfl rfl fun K hK => ?_
    have hc0 := R1.out.cell0
    have hc1 := R1.out.cell1
    have hc2 := R1.out.cell2
    have hc3 := R1.out.cell3
    have hf0 := R1.out.free 0
    have hf1 := R1.out.free 1
    have hf2 := R1.out.free 2
    have hf3 := R1.out.free 3
    go_simp
    have HF' := hide (And.intro (below_put4 HF.out.1 (show w.heap.size ≤ (w.heap.size + 1 + 1 + 1 + 1) by have hx := LTS.out; omega) (.bool s8) (.slice m8 n8 c8) (.bool t8) (.slice o8 p8 d8)) (And.intro (HF.out.2.1.other4 (C := (w.heap.size + 1 + 1 + 1 + 1)) (by have hx := LTS.out; omega) (.bool s8) (.slice m8 n8 c8) (.bool t8) (.slice o8 p8 d8)) (And.intro (HF.out.2.2.1.other4 (C := (w.heap.size + 1 + 1 + 1 + 1)) (by have hx := LTS.out; omega) (.bool s8) (.slice m8 n8 c8) (.bool t8) (.slice o8 p8 d8)) (And.intro (HF.out.2.2.2.1.other4 (C := (w.heap.size + 1 + 1 + 1 + 1)) (by have hx := LTS.out; omega) (.bool s8) (.slice m8 n8 c8) (.bool t8) (.slice o8 p8 d8)) (And.intro (HF.out.2.2.2.2.1.other4 (C := (w.heap.size + 1 + 1 + 1 + 1)) (by have hx := LTS.out; omega) (.bool s8) (.slice m8 n8 c8) (.bool t8) (.slice o8 p8 d8)) (And.intro (HF.out.2.2.2.2.2.1.other4 (C := (w.heap.size + 1 + 1 + 1 + 1)) (by have hx := LTS.out; omega) (.bool s8) (.slice m8 n8 c8) (.bool t8) (.slice o8 p8 d8)) (And.intro (HF.out.2.2.2.2.2.2.1.other4 (C := (w.heap.size + 1 + 1 + 1 + 1)) (by have hx := LTS.out; omega) (.bool s8) (.slice m8 n8 c8) (.bool t8) (.slice o8 p8 d8)) (And.intro (HF.out.2.2.2.2.2.2.2.1.keep (R1.out.keeps (by simp) (by simp) (by simp) (by simp) (.bool s8) (.slice m8 n8 c8) (.bool t8) (.slice o8 p8 d8))) (And.intro (HF.out.2.2.2.2.2.2.2.2.1.keep (R1.out.keeps (by simp) (by simp) (by simp) (by simp) (.bool s8) (.slice m8 n8 c8) (.bool t8) (.slice o8 p8 d8))) (HF.out.2.2.2.2.2.2.2.2.2.keep (R1.out.keeps (by simp) (by simp) (by simp) (by simp) (.bool s8) (.slice m8 n8 c8) (.bool t8) (.slice o8 p8 d8))))))))))))
    replace R0 := hide (R0.out.other4 (C := (w.heap.size + 1 + 1 + 1 + 1)) (by have hx := LTS.out; omega) (.bool s8) (.slice m8 n8 c8) (.bool t8) (.slice o8 p8 d8))
    replace R2 := hide (R2.out.other4 (C := (w.heap.size + 1 + 1 + 1 + 1)) (by have hx := LTS.out; omega) (.bool s8) (.slice m8 n8 c8) (.bool t8) (.slice o8 p8 d8))
    replace R1 := hide (R1.out.put (.bool s8) (.slice m8 n8 c8) (.bool t8) (.slice o8 p8 d8))
    refine hK _ _ (fun _ => HF'.out) ?_
    clear hK K HF hc0 hf0 hc1 hf1 hc2 hf2 hc3 hf3
    have HF := hide HF'.out
    clear HF'
    generalize ((((ws0.setCell ⟨(w.heap.size + 1 + 1 + 1 + 1), 0, none⟩ (.bool s8)).setCell ⟨(w.heap.size + 1 + 1 + 1 + 1), 1, none⟩ (.slice m8 n8 c8)).setCell ⟨(w.heap.size + 1 + 1 + 1 + 1), 2, none⟩ (.bool t8)).setCell ⟨(w.heap.size + 1 + 1 + 1 + 1), 3, none⟩ (.slice o8 p8 d8)) = ws1 at *
    refine Calm.one (i := 20) (l' := #[true, true, true, true, true, true, true, true, true, true, true, true, true, true, true, true, true, true, true, true, true, false]) (by kernel_rfl) rfl rfl rfl fun K hK => ?_
    have hc0 := R2.out.cell0
    have hc1 := R2.out.cell1
    have hc2 := R2.out.cell2
    have hc3 := R2.out.cell3
    have hf0 := R2.out.free 0
    have hf1 := R2.out.free 1
    have hf2 := R2.out.free 2
    have hf3 := R2.out.free 3
    go_simp
    have HF' := hide (And.intro (below_put4 HF.out.1 (show w.heap.size ≤ (w.heap.size + 1 + 1 + 1 + 1 + 1) by have hx := LTS.out; omega) (.bool s9) (.slice m9 n9 c9) (.bool t9) (.slice o9 p9 d9)) (And.intro (HF.out.2.1.other4 (C := (w.heap.size + 1 + 1 + 1 + 1 + 1)) (by have hx := LTS.out; omega) (.bool s9) (.slice m9 n9 c9) (.bool t9) (.slice o9 p9 d9)) (And.intro (HF.out.2.2.1.other4 (C := (w.heap.size + 1 + 1 + 1 + 1 + 1)) (by have hx := LTS.out; omega) (.bool s9) (.slice m9 n9 c9) (.bool t9) (.slice o9 p9 d9)) (And.intro (HF.out.2.2.2.1.other4 (C := (w.heap.size + 1 + 1 + 1 + 1 + 1)) (by have hx := LTS.out; omega) (.bool s9) (.slice m9 n9 c9) (.bool t9) (.slice o9 p9 d9)) (And.intro (HF.out.2.2.2.2.1.other4 (C := (w.heap.size + 1 + 1 + 1 + 1 + 1)) (by have hx := LTS.out; omega) (.bool s9) (.slice m9 n9 c9) (.bool t9) (.slice o9 p9 d9)) (And.intro (HF.out.2.2.2.2.2.1.other4 (C := (w.heap.size + 1 + 1 + 1 + 1 + 1)) (by have hx := LTS.out; omega) (.bool s9) (.slice m9 n9 c9) (.bool t9) (.slice o9 p9 d9)) (And.intro (HF.out.2.2.2.2.2.2.1.other4 (C := (w.heap.size + 1 + 1 + 1 + 1 + 1)) (by have hx := LTS.out; omega) (.bool s9) (.slice m9 n9 c9) (.bool t9) (.slice o9 p9 d9)) (And.intro (HF.out.2.2.2.2.2.2.2.1.keep (R2.out.keeps (by simp) (by simp) (by simp) (by simp) (.bool s9) (.slice m9 n9 c9) (.bool t9) (.slice o9 p9 d9))) (And.intro (HF.out.2.2.2.2.2.2.2.2.1.keep (R2.out.keeps (by simp) (by simp) (by simp) (by simp) (.bool s9) (.slice m9 n9 c9) (.bool t9) (.slice o9 p9 d9))) (HF.out.2.2.2.2.2.2.2.2.2.keep (R2.out.keeps (by simp) (by simp) (by simp) (by simp) (.bool s9) (.slice m9 n9 c9) (.bool t9) (.slice o9 p9 d9))))))))))))
    replace R0 := hide (R0.out.other4 (C := (w.heap.size + 1 + 1 + 1 + 1 + 1)) (by have hx := LTS.out; omega) (.bool s9) (.slice m9 n9 c9) (.bool t9) (.slice o9 p9 d9))
    replace R1 := hide (R1.out.other4 (C := (w.heap.size + 1 + 1 + 1 + 1 + 1)) (by have hx := LTS.out; omega) (.bool s9) (.slice m9 n9 c9) (.bool t9) (.slice o9 p9 d9))
    replace R2 := hide (R2.out.put (.bool s9) (.slice m9 n9 c9) (.bool t9) (.slice o9 p9 d9))
    refine hK _ _ (fun _ => HF'.out) ?_
    clear hK K HF hc0 hf0 hc1 hf1 hc2 hf2 hc3 hf3
    have HF := hide HF'.out
    clear HF'
    generalize ((((ws1.setCell ⟨(w.heap.size + 1 + 1 + 1 + 1 + 1), 0, none⟩ (.bool s9)).setCell ⟨(w.heap.size + 1 + 1 + 1 + 1 + 1), 1, none⟩ (.slice m9 n9 c9)).setCell ⟨(w.heap.size + 1 + 1 + 1 + 1 + 1), 2, none⟩ (.bool t9)).setCell ⟨(w.heap.size + 1 + 1 + 1 + 1 + 1), 3, none⟩ (.slice o9 p9 d9)) = ws2 at *
    refine Calm.take (i := 21) (v := ?_) (a' := ?_) (l' := #[true, true, true, true, true, true, true, true, true, true, true, true, true, true, true, true, true, true, true, true, true, true]) (d := some 9) rfl (by kernel_rfl) (by kernel_rfl) (by kernel_rfl) (by kernel_rfl) (fun _ _ _ h => h) HF.out rfl ?_ rfl rfl ?_ ?_
    rotate_left
    · intro w' hF; clear hF; go_simp; try rfl
    rotate_left
    · simp only [Act.put]; exact rfl
    refine Calm.done (by kernel_rfl) ?_
    replace HB := hide HF.out.1
    replace P0 := hide HF.out.2.1
    replace P1 := hide HF.out.2.2.1
    replace P2 := hide HF.out.2.2.2.1
    replace V0 := hide HF.out.2.2.2.2.1
    replace V1 := hide HF.out.2.2.2.2.2.1
    replace V2 := hide HF.out.2.2.2.2.2.2.1
    replace I0 := hide HF.out.2.2.2.2.2.2.2.1
    replace I1 := hide HF.out.2.2.2.2.2.2.2.2.1
    replace I2 := hide HF.out.2.2.2.2.2.2.2.2.2
    clear HF
    refine (by assumption : ∀ (a : Act) (w : World), Code.wp Try.prog Code.ret _ a w → _) _ _ ?_
    refine wp_ret ?_
    refine ret_three rfl (w.heap.size + 1 + 1 + 1) (w.heap.size + 1 + 1 + 1 + 1) (w.heap.size + 1 + 1 + 1 + 1 + 1) _ _ _ _ _ _ _ _ _ _ _ _ false (by kernel_rfl) (by kernel_rfl) (by kernel_rfl) (by kernel_rfl) R0.out R1.out R2.out rfl ?_
    exact ⟨⟨_, _, _, x, y, z, false, rfl, I0.out, I1.out, I2.out, Z0.out, Z1.out, Z2.out⟩, HB.out⟩
  | true =>
    cases k1 with
    | false =>
      replace R0 := hide R0.out.drew
      replace R1 := hide R1.out.drew
      replace R2 := hide R2.out.drew
      refine wp_calm (fun w' => Below w.heap.size w w' ∧ BoxF w' w.heap.size (.string b0) (.string b1) ∧ BoxF w' (w.heap.size + 1) (.string b2) (.string b3) ∧ BoxF w' (w.heap.size + 1 + 1) (.string b4) (.string b5) ∧ Box4 w' ga (.bool s7) (.slice m7 n7 c7) (.bool t7) (.slice o7 p7 d7) ∧ Box4 w' gb (.bool s8) (.slice m8 n8 c8) (.bool t8) (.slice o8 p8 d8) ∧ Box4 w' gc (.bool s9) (.slice m9 n9 c9) (.bool t9) (.slice o9 p9 d9) ∧ RatAt w' (.agg #[.bool s7, .slice m7 n7 c7, .bool t7, .slice o7 p7 d7]) x ∧ RatAt w' (.agg #[.bool s8, .slice m8 n8 c8, .bool t8, .slice o8 p8 d8]) y ∧ RatAt w' (.agg #[.bool s9, .slice m9 n9 c9, .bool t9, .slice o9 p9 d9]) z) (fun _ => true) 22 #[false, false, false, false, false, false, false, false, false, false, false, false, false, false, false, false, false, false, false, false, false, false] (by kernel_rfl) rfl rfl ?_
      have HF := hide (And.intro (HB.out.drew) (And.intro (P0.out.drew) (And.intro (P1.out.drew) (And.intro (P2.out.drew) (And.intro (V0.out.drew) (And.intro (V1.out.drew) (And.intro (V2.out.drew) (And.intro (I0.out.drew) (And.intro (I1.out.drew) (I2.out.drew))))))))))
      generalize u3a.drew = u3ad at *
      refine Calm.take (i := 0) (v := ?_) (a' := ?_) (l' := #[true, false, false, false, false, false, false, false, false, false, false, false, false, false, false, false, false, false, false, false, false, false]) (d := some 31) rfl (by kernel_rfl) (by kernel_rfl) (by kernel_rfl) (by kernel_rfl) (fun _ _ _ h => h) HF.out rfl ?_ rfl rfl ?_ ?_
      rotate_left
      · intro w' hF; have f10 := hF.2.1.cell0; have f11 := hF.2.1.cell1; have f20 := hF.2.2.1.cell0; have f21 := hF.2.2.1.cell1; have f30 := hF.2.2.2.1.cell0; have f31 := hF.2.2.2.1.cell1; have f40 := hF.2.2.2.2.1.cell0; have f41 := hF.2.2.2.2.1.cell1; have f42 := hF.2.2.2.2.1.cell2; have f43 := hF.2.2.2.2.1.cell3; have f50 := hF.2.2.2.2.2.1.cell0; have f51 := hF.2.2.2.2.2.1.cell1; have f52 := hF.2.2.2.2.2.1.cell2; have f53 := hF.2.2.2.2.2.1.cell3; have f60 := hF.2.2.2.2.2.2.1.cell0; have f61 := hF.2.2.2.2.2.2.1.cell1; have f62 := hF.2.2.2.2.2.2.1.cell2; have f63 := hF.2.2.2.2.2.2.1.cell3; clear hF; go_simp; try rfl
      rotate_left
      · simp only [Act.put]; exact rfl
      refine Calm.take (i := 1) (v := ?_) (a' := ?_) (l' := #[true, true, false, false, false, false, false, false, false, false, false, false, false, false, false, false, false, false, false, false, false, false]) (d := some 32) rfl (by kernel_rfl) (by kernel_rfl) (by kernel_rfl) (by kernel_rfl) (fun _ _ _ h => h) HF.out rfl ?_ rfl rfl ?_ ?_
      rotate_left
      · intro w' hF; have f10 := hF.2.1.cell0; have f11 := hF.2.1.cell1; have f20 := hF.2.2.1.cell0; have f21 := hF.2.2.1.cell1; have f30 := hF.2.2.2.1.cell0; have f31 := hF.2.2.2.1.cell1; have f40 := hF.2.2.2.2.1.cell0; have f41 := hF.2.2.2.2.1.cell1; have f42 := hF.2.2.2.2.1.cell2; have f43 := hF.2.2.2.2.1.cell3; have f50 := hF.2.2.2.2.2.1.cell0; have f51 := hF.2.2.2.2.2.1.cell1; have f52 := hF.2.2.2.2.2.1.cell2; have f53 := hF.2.2.2.2.2.1.cell3; have f60 := hF.2.2.2.2.2.2.1.cell0; have f61 := hF.2.2.2.2.2.2.1.cell1; have f62 := hF.2.2.2.2.2.2.1.cell2; have f63 := hF.2.2.2.2.2.2.1.cell3; clear hF; go_simp; try rfl
      rotate_left
      · simp only [Act.put]; exact rfl
      refine Calm.take (i := 2) (v := ?_) (a' := ?_) (l' := #[true, true, true, false, false, false, false, false, false, false, false, false, false, false, false, false, false, false, false, false, false, false]) (d := some 33) rfl (by kernel_rfl) (by kernel_rfl) (by kernel_rfl) (by kernel_rfl) (fun _ _ _ h => h) HF.out rfl ?_ rfl rfl ?_ ?_
      rotate_left
      · intro w' hF; have f10 := hF.2.1.cell0; have f11 := hF.2.1.cell1; have f20 := hF.2.2.1.cell0; have f21 := hF.2.2.1.cell1; have f30 := hF.2.2.2.1.cell0; have f31 := hF.2.2.2.1.cell1; have f40 := hF.2.2.2.2.1.cell0; have f41 := hF.2.2.2.2.1.cell1; have f42 := hF.2.2.2.2.1.cell2; have f43 := hF.2.2.2.2.1.cell3; have f50 := hF.2.2.2.2.2.1.cell0; have f51 := hF.2.2.2.2.2.1.cell1; have f52 := hF.2.2.2.2.2.1.cell2; have f53 := hF.2.2.2.2.2.1.cell3; have f60 := hF.2.2.2.2.2.2.1.cell0; have f61 := hF.2.2.2.2.2.2.1.cell1; have f62 := hF.2.2.2.2.2.2.1.cell2; have f63 := hF.2.2.2.2.2.2.1.cell3; clear hF; go_simp; try rfl
      rotate_left
      · simp only [Act.put]; exact rfl
      refine Calm.take (i := 3) (v := ?_) (a' := ?_) (l' := #[true, true, true, true, false, false, false, false, false, false, false, false, false, false, false, false, false, false, false, false, false, false]) (d := some 34) rfl (by kernel_rfl) (by kernel_rfl) (by kernel_rfl) (by kernel_rfl) (fun _ _ _ h => h) HF.out rfl ?_ rfl rfl ?_ ?_
      rotate_left
      · intro w' hF; clear hF; go_simp; try rfl
      rotate_left
      · simp only [Act.put]; exact rfl
      refine Calm.take (i := 4) (v := ?_) (a' := ?_) (l' := #[true, true, true, true, true, false, false, false, false, false, false, false, false, false, false, false, false, false, false, false, false, false]) (d := some 35) rfl (by kernel_rfl) (by kernel_rfl) (by kernel_rfl) (by kernel_rfl) (fun _ _ _ h => h) HF.out rfl ?_ rfl rfl ?_ ?_
      rotate_left
      · intro w' hF; clear hF; go_simp; try rfl
      rotate_left
      · simp only [Act.put]; exact rfl
      refine Calm.take (i := 5) (v := ?_) (a' := ?_) (l' := #[true, true, true, true, true, true, false, false, false, false, false, false, false, false, false, false, false, false, false, false, false, false]) (d := some 36) rfl (by kernel_rfl) (by kernel_rfl) (by kernel_rfl) (by kernel_rfl) (fun _ _ _ h => h) HF.out (by kernel_rfl) ?_ rfl rfl ?_ ?_
      rotate_left
      · intro w' hF; clear hF; go_simp; try rfl
      rotate_left
      · simp only [Act.put]; exact rfl
      refine Calm.take (i := 6) (v := ?_) (a' := ?_) (l' := #[true, true, true, true, true, true, true, false, false, false, false, false, false, false, false, false, false, false, false, false, false, false]) (d := some 37) rfl (by kernel_rfl) (by kernel_rfl) (by kernel_rfl) (by kernel_rfl) (fun _ _ _ h => h) HF.out rfl ?_ rfl rfl ?_ ?_
      rotate_left
      · intro w' hF; clear hF; go_simp; try rfl
      rotate_left
      · simp only [Act.put]; exact rfl
      refine Calm.take (i := 7) (v := ?_) (a' := ?_) (l' := #[true, true, true, true, true, true, true, true, false, false, false, false, false, false, false, false, false, false, false, false, false, false]) (d := some 38) rfl (by kernel_rfl) (by kernel_rfl) (by kernel_rfl) (by kernel_rfl) (fun _ _ _ h => h) HF.out rfl ?_ rfl rfl ?_ ?_
      rotate_left
      · intro w' hF; clear hF; go_simp; try rfl
      rotate_left
      · simp only [Act.put]; exact rfl
      refine Calm.skip3 (i := 8) (a' := ?_) (l' := #[true, true, true, true, true, true, true, true, true, false, false, false, false, false, false, false, false, false, false, false, false, false]) (d := some 39) rfl (by kernel_rfl) (by kernel_rfl) (by kernel_rfl) (by kernel_rfl) (fun _ _ _ h => h) HF.out (by kernel_rfl) rfl rfl ?_ ?_
      rotate_left
      · simp only [Act.put]; exact rfl
      refine Calm.take (i := 9) (v := ?_) (a' := ?_) (l' := #[true, true, true, true, true, true, true, true, true, true, false, false, false, false, false, false, false, false, false, false, false, false]) (d := some 40) rfl (by kernel_rfl) (by kernel_rfl) (by kernel_rfl) (by kernel_rfl) (fun _ _ _ h => h) HF.out rfl ?_ rfl rfl ?_ ?_
      rotate_left
      · intro w' hF; clear hF; go_simp; try rfl
      rotate_left
      · simp only [Act.put]; exact rfl
      refine Calm.take (i := 10) (v := ?_) (a' := ?_) (l' := #[true, true, true, true, true, true, true, true, true, true, true, false, false, false, false, false, false, false, false, false, false, false]) (d := some 41) rfl (by kernel_rfl) (by kernel_rfl) (by kernel_rfl) (by kernel_rfl) (fun _ _ _ h => h) HF.out rfl ?_ rfl rfl ?_ ?_
      rotate_left
      · intro w' hF; clear hF; go_simp; try rfl
      rotate_left
      · simp only [Act.put]; exact rfl
      refine Calm.skip3 (i := 11) (a' := ?_) (l' := #[true, true, true, true, true, true, true, true, true, true, true, true, false, false, false, false, false, false, false, false, false, false]) (d := some 42) rfl (by kernel_rfl) (by kernel_rfl) (by kernel_rfl) (by kernel_rfl) (fun _ _ _ h => h) HF.out (by kernel_rfl) rfl rfl ?_ ?_
      rotate_left
      · simp only [Act.put]; exact rfl
      refine Calm.skip3 (i := 12) (a' := ?_) (l' := #[true, true, true, true, true, true, true, true, true, true, true, true, true, false, false, false, false, false, false, false, false, false]) (d := some 43) rfl (by kernel_rfl) (by kernel_rfl) (by kernel_rfl) (by kernel_rfl) (fun _ _ _ h => h) HF.out (by kernel_rfl) rfl rfl ?_ ?_
      rotate_left
      · simp only [Act.put]; exact rfl
      refine Calm.skip3 (i := 13) (a' := ?_) (l' := #[true, true, true, true, true, true, true, true, true, true, true, true, true, true, false, false, false, false, false, false, false, false]) (d := some 44) rfl (by kernel_rfl) (by kernel_rfl) (by kernel_rfl) (by kernel_rfl) (fun _ _ _ h => h) HF.out (by kernel_rfl) rfl rfl ?_ ?_
      rotate_left
      · simp only [Act.put]; exact rfl
      refine Calm.skip3 (i := 14) (a' := ?_) (l' := #[true, true, true, true, true, true, true, true, true, true, true, true, true, true, true, false, false, false, false, false, false, false]) (d := some 45) rfl (by kernel_rfl) (by kernel_rfl) (by kernel_rfl) (by kernel_rfl) (fun _ _ _ h => h) HF.out (by kernel_rfl) rfl rfl ?_ ?_
      rotate_left
      · simp only [Act.put]; exact rfl
      refine Calm.skip3 (i := 15) (a' := ?_) (l' := #[true, true, true, true, true, true, true, true, true, true, true, true, true, true, true, true, false, false, false, false, false, false]) (d := some 46) rfl (by kernel_rfl) (by kernel_rfl) (by kernel_rfl) (by kernel_rfl) (fun _ _ _ h => h) HF.out (by kernel_rfl) rfl rfl ?_ ?_
      rotate_left
      · simp only [Act.put]; exact rfl
      refine Calm.skip3 (i := 16) (a' := ?_) (l' := #[true, true, true, true, true, true, true, true, true, true, true, true, true, true, true, true, true, false, false, false, false, false]) (d := some 47) rfl (by kernel_rfl) (by kernel_rfl) (by kernel_rfl) (by kernel_rfl) (fun _ _ _ h => h) HF.out (by kernel_rfl) rfl rfl ?_ ?_
      rotate_left
      · simp only [Act.put]; exact rfl
      refine Calm.take (i := 17) (v := ?_) (a' := ?_) (l' := #[true, true, true, true, true, true, true, true, true, true, true, true, true, true, true, true, true, true, false, false, false, false]) (d := some 48) rfl (by kernel_rfl) (by kernel_rfl) (by kernel_rfl) (by kernel_rfl) (fun _ _ _ h => h) HF.out rfl ?_ rfl rfl ?_ ?_
      rotate_left
      · intro w' hF; clear hF; go_simp; try rfl
      rotate_left
      · simp only [Act.put]; exact rfl
      refine Calm.one (i := 18) (l' := #[true, true, true, true, true, true, true, true, true, true, true, true, true, true, true, true, true, true, true, false, false, false]) (by kernel_rfl) rfl rfl rfl fun K hK => ?_
      have hc0 := R0.out.cell0
      have hc1 := R0.out.cell1
      have hc2 := R0.out.cell2
      have hc3 := R0.out.cell3
      have hf0 := R0.out.free 0
      have hf1 := R0.out.free 1
      have hf2 := R0.out.free 2
      have hf3 := R0.out.free 3
      go_simp
      have HF' := hide (And.intro (below_put4 HF.out.1 (show w.heap.size ≤ (w.heap.size + 1 + 1 + 1) by have hx := LTS.out; omega) (.bool s7) (.slice m7 n7 c7) (.bool t7) (.slice o7 p7 d7)) (And.intro (HF.out.2.1.other4 (C := (w.heap.size + 1 + 1 + 1)) (by have hx := LTS.out; omega) (.bool s7) (.slice m7 n7 c7) (.bool t7) (.slice o7 p7 d7)) (And.intro (HF.out.2.2.1.other4 (C := (w.heap.size + 1 + 1 + 1)) (by have hx := LTS.out; omega) (.bool s7) (.slice m7 n7 c7) (.bool t7) (.slice o7 p7 d7)) (And.intro (HF.out.2.2.2.1.other4 (C := (w.heap.size + 1 + 1 + 1)) (by have hx := LTS.out; omega) (.bool s7) (.slice m7 n7 c7) (.bool t7) (.slice o7 p7 d7)) (And.intro (HF.out.2.2.2.2.1.other4 (C := (w.heap.size + 1 + 1 + 1)) (by have hx := LTS.out; omega) (.bool s7) (.slice m7 n7 c7) (.bool t7) (.slice o7 p7 d7)) (And.intro (HF.out.2.2.2.2.2.1.other4 (C := (w.heap.size + 1 + 1 + 1)) (by have hx := LTS.out; omega) (.bool s7) (.slice m7 n7 c7) (.bool t7) (.slice o7 p7 d7)) (And.intro (HF.out.2.2.2.2.2.2.1.other4 (C := (w.heap.size + 1 + 1 + 1)) (by have hx := LTS.out; omega) (.bool s7) (.slice m7 n7 c7) (.bool t7) (.slice o7 p7 d7)) (And.intro (HF.out.2.2.2.2.2.2.2.1.keep (R0.out.keeps (by simp) (by simp) (by simp) (by simp) (.bool s7) (.slice m7 n7 c7) (.bool t7) (.slice o7 p7 d7))) (And.intro (HF.out.2.2.2.2.2.2.2.2.1.keep (R0.out.keeps (by simp) (by simp) (by simp) (by simp) (.bool s7) (.slice m7 n7 c7) (.bool t7) (.slice o7 p7 d7))) (HF.out.2.2.2.2.2.2.2.2.2.keep (R0.out.keeps (by simp) (by simp) (by simp) (by simp) (.bool s7) (.slice m7 n7 c7) (.bool t7) (.slice o7 p7 d7))))))))))))
      replace R1 := hide (R1.out.other4 (C := (w.heap.size + 1 + 1 + 1)) (by have hx := LTS.out; omega) (.bool s7) (.slice m7 n7 c7) (.bool t7) (.slice o7 p7 d7))
      replace R2 := hide (R2.out.other4 (C := (w.heap.size + 1 + 1 + 1)) (by have hx := LTS.out; omega) (.bool s7) (.slice m7 n7 c7) (.bool t7) (.slice o7 p7 d7))
      replace R0 := hide (R0.out.put (.bool s7) (.slice m7 n7 c7) (.bool t7) (.slice o7 p7 d7))
      refine hK _ _ (fun _ => HF'.out) ?_
      clear hK K HF hc0 hf0 hc1 hf1 hc2 hf2 hc3 hf3
      have HF := hide HF'.out
      clear HF'
      generalize ((((u3ad.setCell ⟨(w.heap.size + 1 + 1 + 1), 0, none⟩ (.bool s7)).setCell ⟨(w.heap.size + 1 + 1 + 1), 1, none⟩ (.slice m7 n7 c7)).setCell ⟨(w.heap.size + 1 + 1 + 1), 2, none⟩ (.bool t7)).setCell ⟨(w.heap.size + 1 + 1 + 1), 3, none⟩ (.slice o7 p7 d7)) = ws0 at *
      refine Calm.one (i := 19) (l' := #[true, true, true, true, true, true, true, true, true, true, true, true, true, true, true, true, true, true, true, true, false, false]) (by kernel_rfl) rfl rfl rfl fun K hK => ?_
      have hc0 := R1.out.cell0
      have hc1 := R1.out.cell1
      have hc2 := R1.out.cell2
      have hc3 := R1.out.cell3
      have hf0 := R1.out.free 0
      have hf1 := R1.out.free 1
      have hf2 := R1.out.free 2
      have hf3 := R1.out.free 3
      go_simp
      have HF' := hide (And.intro (below_put4 HF.out.1 (show w.heap.size ≤ (w.heap.size + 1 + 1 + 1 + 1) by have hx := LTS.out; omega) (.bool s8) (.slice m8 n8 c8) (.bool t8) (.slice o8 p8 d8)) (And.intro (HF.out.2.1.other4 (C := (w.heap.size + 1 + 1 + 1 + 1)) (by have hx := LTS.out; omega) (.bool s8) (.slice m8 n8 c8) (.bool t8) (.slice o8 p8 d8)) (And.intro (HF.out.2.2.1.other4 (C := (w.heap.size + 1 + 1 + 1 + 1)) (by have hx := LTS.out; omega) (.bool s8) (.slice m8 n8 c8) (.bool t8) (.slice o8 p8 d8)) (And.intro (HF.out.2.2.2.1.other4 (C := (w.heap.size + 1 + 1 + 1 + 1)) (by have hx := LTS.out; omega) (.bool s8) (.slice m8 n8 c8) (.bool t8) (.slice o8 p8 d8)) (And.intro (HF.out.2.2.2.2.1.other4 (C := (w.heap.size + 1 + 1 + 1 + 1)) (by have hx := LTS.out; omega) (.bool s8) (.slice m8 n8 c8) (.bool t8) (.slice o8 p8 d8)) (And.intro (HF.out.2.2.2.2.2.1.other4 (C := (w.heap.size + 1 + 1 + 1 + 1)) (by have hx := LTS.out; omega) (.bool s8) (.slice m8 n8 c8) (.bool t8) (.slice o8 p8 d8)) (And.intro (HF.out.2.2.2.2.2.2.1.other4 (C := (w.heap.size + 1 + 1 + 1 + 1)) (by have hx := LTS.out; omega) (.bool s8) (.slice m8 n8 c8) (.bool t8) (.slice o8 p8 d8)) (And.intro (HF.out.2.2.2.2.2.2.2.1.keep (R1.out.keeps (by simp) (by simp) (by simp) (by simp) (.bool s8) (.slice m8 n8 c8) (.bool t8) (.slice o8 p8 d8))) (And.intro (HF.out.2.2.2.2.2.2.2.2.1.keep (R1.out.keeps (by simp) (by simp) (by simp) (by simp) (.bool s8) (.slice m8 n8 c8) (.bool t8) (.slice o8 p8 d8))) (HF.out.2.2.2.2.2.2.2.2.2.keep (R1.out.keeps (by simp) (by simp) (by simp) (by simp) (.bool s8) (.slice m8 n8 c8) (.bool t8) (.slice o8 p8 d8))))))))))))
      replace R0 := hide (R0.out.other4 (C := (w.heap.size + 1 + 1 + 1 + 1)) (by have hx := LTS.out; omega) (.bool s8) (.slice m8 n8 c8) (.bool t8) (.slice o8 p8 d8))
      replace R2 := hide (R2.out.other4 (C := (w.heap.size + 1 + 1 + 1 + 1)) (by have hx := LTS.out; omega) (.bool s8) (.slice m8 n8 c8) (.bool t8) (.slice o8 p8 d8))
      replace R1 := hide (R1.out.put (.bool s8) (.slice m8 n8 c8) (.bool t8) (.slice o8 p8 d8))
      refine hK _ _ (fun _ => HF'.out) ?_
      clear hK K HF hc0 hf0 hc1 hf1 hc2 hf2 hc3 hf3
      have HF := hide HF'.out
      clear HF'
      generalize ((((ws0.setCell ⟨(w.heap.size + 1 + 1 + 1 + 1), 0, none⟩ (.bool s8)).setCell ⟨(w.heap.size + 1 + 1 + 1 + 1), 1, none⟩ (.slice m8 n8 c8)).setCell ⟨(w.heap.size + 1 + 1 + 1 + 1), 2, none⟩ (.bool t8)).setCell ⟨(w.heap.size + 1 + 1 + 1 + 1), 3, none⟩ (.slice o8 p8 d8)) = ws1 at *
      refine Calm.one (i := 20) (l' := #[true, true, true, true, true, true, true, true, true, true, true, true, true, true, true, true, true, true, true, true, true, false]) (by kernel_rfl) rfl rfl rfl fun K hK => ?_
      have hc0 := R2.out.cell0
      have hc1 := R2.out.cell1
      have hc2 := R2.out.cell2
      have hc3 := R2.out.cell3
      have hf0 := R2.out.free 0
      have hf1 := R2.out.free 1
      have hf2 := R2.out.free 2
      have hf3 := R2.out.free 3
      go_simp
      have HF' := hide (And.intro (below_put4 HF.out.1 (show w.heap.size ≤ (w.heap.size + 1 + 1 + 1 + 1 + 1) by have hx := LTS.out; omega) (.bool s9) (.slice m9 n9 c9) (.bool t9) (.slice o9 p9 d9)) (And.intro (HF.out.2.1.other4 (C := (w.heap.size + 1 + 1 + 1 + 1 + 1)) (by have hx := LTS.out; omega) (.bool s9) (.slice m9 n9 c9) (.bool t9) (.slice o9 p9 d9)) (And.intro (HF.out.2.2.1.other4 (C := (w.heap.size + 1 + 1 + 1 + 1 + 1)) (by have hx := LTS.out; omega) (.bool s9) (.slice m9 n9 c9) (.bool t9) (.slice o9 p9 d9)) (And.intro (HF.out.2.2.2.1.other4 (C := (w.heap.size + 1 + 1 + 1 + 1 + 1)) (by have hx := LTS.out; omega) (.bool s9) (.slice m9 n9 c9) (.bool t9) (.slice o9 p9 d9)) (And.intro (HF.out.2.2.2.2.1.other4 (C := (w.heap.size + 1 + 1 + 1 + 1 + 1)) (by have hx := LTS.out; omega) (.bool s9) (.slice m9 n9 c9) (.bool t9) (.slice o9 p9 d9)) (And.intro (HF.out.2.2.2.2.2.1.other4 (C := (w.heap.size + 1 + 1 + 1 + 1 + 1)) (by have hx := LTS.out; omega) (.bool s9) (.slice m9 n9 c9) (.bool t9) (.slice o9 p9 d9)) (And.intro (HF.out.2.2.2.2.2.2.1.other4 (C := (w.heap.size + 1 + 1 + 1 + 1 + 1)) (by have hx := LTS.out; omega) (.bool s9) (.slice m9 n9 c9) (.bool t9) (.slice o9 p9 d9)) (And.intro (HF.out.2.2.2.2.2.2.2.1.keep (R2.out.keeps (by simp) (by simp) (by simp) (by simp) (.bool s9) (.slice m9 n9 c9) (.bool t9) (.slice o9 p9 d9))) (And.intro (HF.out.2.2.2.2.2.2.2.2.1.keep (R2.out.keeps (by simp) (by simp) (by simp) (by simp) (.bool s9) (.slice m9 n9 c9) (.bool t9) (.slice o9 p9 d9))) (HF.out.2.2.2.2.2.2.2.2.2.keep (R2.out.keeps (by simp) (by simp) (by simp) (by simp) (.bool s9) (.slice m9 n9 c9) (.bool t9) (.slice o9 p9 d9))))))))))))
      replace R0 := hide (R0.out.other4 (C := (w.heap.size + 1 + 1 + 1 + 1 + 1)) (by have hx := LTS.out; omega) (.bool s9) (.slice m9 n9 c9) (.bool t9) (.slice o9 p9 d9))
      replace R1 := hide (R1.out.other4 (C := (w.heap.size + 1 + 1 + 1 + 1 + 1)) (by have hx := LTS.out; omega) (.bool s9) (.slice m9 n9 c9) (.bool t9) (.slice o9 p9 d9))
      replace R2 := hide (R2.out.put (.bool s9) (.slice m9 n9 c9) (.bool t9) (.slice o9 p9 d9))
      refine hK _ _ (fun _ => HF'.out) ?_
      clear hK K HF hc0 hf0 hc1 hf1 hc2 hf2 hc3 hf3
      have HF := hide HF'.out
      clear HF'
      generalize ((((ws1.setCell ⟨(w.heap.size + 1 + 1 + 1 + 1 + 1), 0, none⟩ (.bool s9)).setCell ⟨(w.heap.size + 1 + 1 + 1 + 1 + 1), 1, none⟩ (.slice m9 n9 c9)).setCell ⟨(w.heap.size + 1 + 1 + 1 + 1 + 1), 2, none⟩ (.bool t9)).setCell ⟨(w.heap.size + 1 + 1 + 1 + 1 + 1), 3, none⟩ (.slice o9 p9 d9)) = ws2 at *
      refine Calm.take (i := 21) (v := ?_) (a' := ?_) (l' := #[true, true, true, true, true, true, true, true, true, true, true, true, true, true, true, true, true, true, true, true, true, true]) (d := some 9) rfl (by kernel_rfl) (by kernel_rfl) (by kernel_rfl) (by kernel_rfl) (fun _ _ _ h => h) HF.out rfl ?_ rfl rfl ?_ ?_
      rotate_left
      · intro w' hF; clear hF; go_simp; try rfl
      rotate_left
      · simp only [Act.put]; exact rfl
      refine Calm.done (by kernel_rfl) ?_
      replace HB := hide HF.out.1
      replace P0 := hide HF.out.2.1
      replace P1 := hide HF.out.2.2.1
      replace P2 := hide HF.out.2.2.2.1
      replace V0 := hide HF.out.2.2.2.2.1
      replace V1 := hide HF.out.2.2.2.2.2.1
      replace V2 := hide HF.out.2.2.2.2.2.2.1
      replace I0 := hide HF.out.2.2.2.2.2.2.2.1
      replace I1 := hide HF.out.2.2.2.2.2.2.2.2.1
      replace I2 := hide HF.out.2.2.2.2.2.2.2.2.2
      clear HF
      refine (by assumption : ∀ (a : Act) (w : World), Code.wp Try.prog Code.ret _ a w → _) _ _ ?_
      refine wp_ret ?_
      refine ret_three rfl (w.heap.size + 1 + 1 + 1) (w.heap.size + 1 + 1 + 1 + 1) (w.heap.size + 1 + 1 + 1 + 1 + 1) _ _ _ _ _ _ _ _ _ _ _ _ false (by kernel_rfl) (by kernel_rfl) (by kernel_rfl) (by kernel_rfl) R0.out R1.out R2.out rfl ?_
      exact ⟨⟨_, _, _, x, y, z, false, rfl, I0.out, I1.out, I2.out, Z0.out, Z1.out, Z2.out⟩, HB.out⟩
    | true =>
      cases k2 with
      | false =>
        replace R0 := hide R0.out.drew
        replace R1 := hide R1.out.drew
        replace R2 := hide R2.out.drew
        refine wp_calm (fun w' => Below w.heap.size w w' ∧ BoxF w' w.heap.size (.string b0) (.string b1) ∧ BoxF w' (w.heap.size + 1) (.string b2) (.string b3) ∧ BoxF w' (w.heap.size + 1 + 1) (.string b4) (.string b5) ∧ Box4 w' ga (.bool s7) (.slice m7 n7 c7) (.bool t7) (.slice o7 p7 d7) ∧ Box4 w' gb (.bool s8) (.slice m8 n8 c8) (.bool t8) (.slice o8 p8 d8) ∧ Box4 w' gc (.bool s9) (.slice m9 n9 c9) (.bool t9) (.slice o9 p9 d9) ∧ RatAt w' (.agg #[.bool s7, .slice m7 n7 c7, .bool t7, .slice o7 p7 d7]) x ∧ RatAt w' (.agg #[.bool s8, .slice m8 n8 c8, .bool t8, .slice o8 p8 d8]) y ∧ RatAt w' (.agg #[.bool s9, .slice m9 n9 c9, .bool t9, .slice o9 p9 d9]) z) (fun _ => true) 22 #[false, false, false, false, false, false, false, false, false, false, false, false, false, false, false, false, false, false, false, false, false, false] (by kernel_rfl) rfl rfl ?_
        have HF := hide (And.intro (HB.out.drew) (And.intro (P0.out.drew) (And.intro (P1.out.drew) (And.intro (P2.out.drew) (And.intro (V0.out.drew) (And.intro (V1.out.drew) (And.intro (V2.out.drew) (And.intro (I0.out.drew) (And.intro (I1.out.drew) (I2.out.drew))))))))))
        generalize u3a.drew = u3ad at *
        refine Calm.take (i := 0) (v := ?_) (a' := ?_) (l' := #[true, false, false, false, false, false, false, false, false, false, false, false, false, false, false, false, false, false, false, false, false, false]) (d := some 31) rfl (by kernel_rfl) (by kernel_rfl) (by kernel_rfl) (by kernel_rfl) (fun _ _ _ h => h) HF.out rfl ?_ rfl rfl ?_ ?_
        rotate_left
        · intro w' hF; have f10 := hF.2.1.cell0; have f11 := hF.2.1.cell1; have f20 := hF.2.2.1.cell0; have f21 := hF.2.2.1.cell1; have f30 := hF.2.2.2.1.cell0; have f31 := hF.2.2.2.1.cell1; have f40 := hF.2.2.2.2.1.cell0; have f41 := hF.2.2.2.2.1.cell1; have f42 := hF.2.2.2.2.1.cell2; have f43 := hF.2.2.2.2.1.cell3; have f50 := hF.2.2.2.2.2.1.cell0; have f51 := hF.2.2.2.2.2.1.cell1; have f52 := hF.2.2.2.2.2.1.cell2; have f53 := hF.2.2.2.2.2.1.cell3; have f60 := hF.2.2.2.2.2.2.1.cell0; have f61 := hF.2.2.2.2.2.2.1.cell1; have f62 := hF.2.2.2.2.2.2.1.cell2; have f63 := hF.2.2.2.2.2.2.1.cell3; clear hF; go_simp; try rfl
        rotate_left
        · simp only [Act.put]; exact rfl
        refine Calm.take (i := 1) (v := ?_) (a' := ?_) (l' := #[true, true, false, false, false, false, false, false, false, false, false, false, false, false, false, false, false, false, false, false, false, false]) (d := some 32) rfl (by kernel_rfl) (by kernel_rfl) (by kernel_rfl) (by kernel_rfl) (fun _ _ _ h => h) HF.out rfl ?_ rfl rfl ?_ ?_
        rotate_left
        · intro w' hF; have f10 := hF.2.1.cell0; have f11 := hF.2.1.cell1; have f20 := hF.2.2.1.cell0; have f21 := hF.2.2.1.cell1; have f30 := hF.2.2.2.1.cell0; have f31 := hF.2.2.2.1.cell1; have f40 := hF.2.2.2.2.1.cell0; have f41 := hF.2.2.2.2.1.cell1; have f42 := hF.2.2.2.2.1.cell2; have f43 := hF.2.2.2.2.1.cell3; have f50 := hF.2.2.2.2.2.1.cell0; have f51 := hF.2.2.2.2.2.1.cell1; have f52 := hF.2.2.2.2.2.1.cell2; have f53 := hF.2.2.2.2.2.1.cell3; have f60 := hF.2.2.2.2.2.2.1.cell0; have f61 := hF.2.2.2.2.2.2.1.cell1; have f62 := hF.2.2.2.2.2.2.1.cell2; have f63 := hF.2.2.2.2.2.2.1.cell3; clear hF; go_simp; try rfl
        rotate_left
        · simp only [Act.put]; exact rfl
        refine Calm.take (i := 2) (v := ?_) (a' := ?_) (l' := #[true, true, true, false, false, false, false, false, false, false, false, false, false, false, false, false, false, false, false, false, false, false]) (d := some 33) rfl (by kernel_rfl) (by kernel_rfl) (by kernel_rfl) (by kernel_rfl) (fun _ _ _ h => h) HF.out rfl ?_ rfl rfl ?_ ?_
        rotate_left
        · intro w' hF; have f10 := hF.2.1.cell0; have f11 := hF.2.1.cell1; have f20 := hF.2.2.1.cell0; have f21 := hF.2.2.1.cell1; have f30 := hF.2.2.2.1.cell0; have f31 := hF.2.2.2.1.cell1; have f40 := hF.2.2.2.2.1.cell0; have f41 := hF.2.2.2.2.1.cell1; have f42 := hF.2.2.2.2.1.cell2; have f43 := hF.2.2.2.2.1.cell3; have f50 := hF.2.2.2.2.2.1.cell0; have f51 := hF.2.2.2.2.2.1.cell1; have f52 := hF.2.2.2.2.2.1.cell2; have f53 := hF.2.2.2.2.2.1.cell3; have f60 := hF.2.2.2.2.2.2.1.cell0; have f61 := hF.2.2.2.2.2.2.1.cell1; have f62 := hF.2.2.2.2.2.2.1.cell2; have f63 := hF.2.2.2.2.2.2.1.cell3; clear hF; go_simp; try rfl
        rotate_left
        · simp only [Act.put]; exact rfl
        refine Calm.take (i := 3) (v := ?_) (a' := ?_) (l' := #[true, true, true, true, false, false, false, false, false, false, false, false, false, false, false, false, false, false, false, false, false, false]) (d := some 34) rfl (by kernel_rfl) (by kernel_rfl) (by kernel_rfl) (by kernel_rfl) (fun _ _ _ h => h) HF.out rfl ?_ rfl rfl ?_ ?_
        rotate_left
        · intro w' hF; clear hF; go_simp; try rfl
        rotate_left
        · simp only [Act.put]; exact rfl
        refine Calm.take (i := 4) (v := ?_) (a' := ?_) (l' := #[true, true, true, true, true, false, false, false, false, false, false, false, false, false, false, false, false, false, false, false, false, false]) (d := some 35) rfl (by kernel_rfl) (by kernel_rfl) (by kernel_rfl) (by kernel_rfl) (fun _ _ _ h => h) HF.out rfl ?_ rfl rfl ?_ ?_
        rotate_left
        · intro w' hF; clear hF; go_simp; try rfl
        rotate_left
        · simp only [Act.put]; exact rfl
        refine Calm.take (i := 5) (v := ?_) (a' := ?_) (l' := #[true, true, true, true, true, true, false, false, false, false, false, false, false, false, false, false, false, false, false, false, false, false]) (d := some 36) rfl (by kernel_rfl) (by kernel_rfl) (by kernel_rfl) (by kernel_rfl) (fun _ _ _ h => h) HF.out (by kernel_rfl) ?_ rfl rfl ?_ ?_
        rotate_left
        · intro w' hF; clear hF; go_simp; try rfl
        rotate_left
        · simp only [Act.put]; exact rfl
        refine Calm.take (i := 6) (v := ?_) (a' := ?_) (l' := #[true, true, true, true, true, true, true, false, false, false, false, false, false, false, false, false, false, false, false, false, false, false]) (d := some 37) rfl (by kernel_rfl) (by kernel_rfl) (by kernel_rfl) (by kernel_rfl) (fun _ _ _ h => h) HF.out rfl ?_ rfl rfl ?_ ?_
        rotate_left
        · intro w' hF; clear hF; go_simp; try rfl
        rotate_left
        · simp only [Act.put]; exact rfl
        refine Calm.take (i := 7) (v := ?_) (a' := ?_) (l' := #[true, true, true, true, true, true, true, true, false, false, false, false, false, false, false, false, false, false, false, false, false, false]) (d := some 38) rfl (by kernel_rfl) (by kernel_rfl) (by kernel_rfl) (by kernel_rfl) (fun _ _ _ h => h) HF.out rfl ?_ rfl rfl ?_ ?_
        rotate_left
        · intro w' hF; clear hF; go_simp; try rfl
        rotate_left
        · simp only [Act.put]; exact rfl
        refine Calm.take (i := 8) (v := ?_) (a' := ?_) (l' := #[true, true, true, true, true, true, true, true, true, false, false, false, false, false, false, false, false, false, false, false, false, false]) (d := some 39) rfl (by kernel_rfl) (by kernel_rfl) (by kernel_rfl) (by kernel_rfl) (fun _ _ _ h => h) HF.out (by kernel_rfl) ?_ rfl rfl ?_ ?_
        rotate_left
        · intro w' hF; clear hF; go_simp; try rfl
        rotate_left
        · simp only [Act.put]; exact rfl
        refine Calm.take (i := 9) (v := ?_) (a' := ?_) (l' := #[true, true, true, true, true, true, true, true, true, true, false, false, false, false, false, false, false, false, false, false, false, false]) (d := some 40) rfl (by kernel_rfl) (by kernel_rfl) (by kernel_rfl) (by kernel_rfl) (fun _ _ _ h => h) HF.out rfl ?_ rfl rfl ?_ ?_
        rotate_left
        · intro w' hF; clear hF; go_simp; try rfl
        rotate_left
        · simp only [Act.put]; exact rfl
        refine Calm.take (i := 10) (v := ?_) (a' := ?_) (l' := #[true, true, true, true, true, true, true, true, true, true, true, false, false, false, false, false, false, false, false, false, false, false]) (d := some 41) rfl (by kernel_rfl) (by kernel_rfl) (by kernel_rfl) (by kernel_rfl) (fun _ _ _ h => h) HF.out rfl ?_ rfl rfl ?_ ?_
        rotate_left
        · intro w' hF; clear hF; go_simp; try rfl
        rotate_left
        · simp only [Act.put]; exact rfl
        refine Calm.skip3 (i := 11) (a' := ?_) (l' := #[true, true, true, true, true, true, true, true, true, true, true, true, false, false, false, false, false, false, false, false, false, false]) (d := some 42) rfl (by kernel_rfl) (by kernel_rfl) (by kernel_rfl) (by kernel_rfl) (fun _ _ _ h => h) HF.out (by kernel_rfl) rfl rfl ?_ ?_
        rotate_left
        · simp only [Act.put]; exact rfl
        refine Calm.skip3 (i := 12) (a' := ?_) (l' := #[true, true, true, true, true, true, true, true, true, true, true, true, true, false, false, false, false, false, false, false, false, false]) (d := some 43) rfl (by kernel_rfl) (by kernel_rfl) (by kernel_rfl) (by kernel_rfl) (fun _ _ _ h => h) HF.out (by kernel_rfl) rfl rfl ?_ ?_
        rotate_left
        · simp only [Act.put]; exact rfl
        refine Calm.skip3 (i := 13) (a' := ?_) (l' := #[true, true, true, true, true, true, true, true, true, true, true, true, true, true, false, false, false, false, false, false, false, false]) (d := some 44) rfl (by kernel_rfl) (by kernel_rfl) (by kernel_rfl) (by kernel_rfl) (fun _ _ _ h => h) HF.out (by kernel_rfl) rfl rfl ?_ ?_
        rotate_left
        · simp only [Act.put]; exact rfl
        refine Calm.skip3 (i := 14) (a' := ?_) (l' := #[true, true, true, true, true, true, true, true, true, true, true, true, true, true, true, false, false, false, false, false, false, false]) (d := some 45) rfl (by kernel_rfl) (by kernel_rfl) (by kernel_rfl) (by kernel_rfl) (fun _ _ _ h => h) HF.out (by kernel_rfl) rfl rfl ?_ ?_
        rotate_left
        · simp only [Act.put]; exact rfl
        refine Calm.skip3 (i := 15) (a' := ?_) (l' := #[true, true, true, true, true, true, true, true, true, true, true, true, true, true, true, true, false, false, false, false, false, false]) (d := some 46) rfl (by kernel_rfl) (by kernel_rfl) (by kernel_rfl) (by kernel_rfl) (fun _ _ _ h => h) HF.out (by kernel_rfl) rfl rfl ?_ ?_
        rotate_left
        · simp only [Act.put]; exact rfl
        refine Calm.skip3 (i := 16) (a' := ?_) (l' := #[true, true, true, true, true, true, true, true, true, true, true, true, true, true, true, true, true, false, false, false, false, false]) (d := some 47) rfl (by kernel_rfl) (by kernel_rfl) (by kernel_rfl) (by kernel_rfl) (fun _ _ _ h => h) HF.out (by kernel_rfl) rfl rfl ?_ ?_
        rotate_left
        · simp only [Act.put]; exact rfl
        refine Calm.take (i := 17) (v := ?_) (a' := ?_) (l' := #[true, true, true, true, true, true, true, true, true, true, true, true, true, true, true, true, true, true, false, false, false, false]) (d := some 48) rfl (by kernel_rfl) (by kernel_rfl) (by kernel_rfl) (by kernel_rfl) (fun _ _ _ h => h) HF.out rfl ?_ rfl rfl ?_ ?_
        rotate_left
        · intro w' hF; clear hF; go_simp; try rfl
        rotate_left
        · simp only [Act.put]; exact rfl
        refine Calm.one (i := 18) (l' := #[true, true, true, true, true, true, true, true, true, true, true, true, true, true, true, true, true, true, true, false, false, false]) (by kernel_rfl) rfl rfl rfl fun K hK => ?_
        have hc0 := R0.out.cell0
        have hc1 := R0.out.cell1
        have hc2 := R0.out.cell2
        have hc3 := R0.out.cell3
        have hf0 := R0.out.free 0
        have hf1 := R0.out.free 1
        have hf2 := R0.out.free 2
        have hf3 := R0.out.free 3
        go_simp
        have HF' := hide (And.intro (below_put4 HF.out.1 (show w.heap.size ≤ (w.heap.size + 1 + 1 + 1) by have hx := LTS.out; omega) (.bool s7) (.slice m7 n7 c7) (.bool t7) (.slice o7 p7 d7)) (And.intro (HF.out.2.1.other4 (C := (w.heap.size + 1 + 1 + 1)) (by have hx := LTS.out; omega) (.bool s7) (.slice m7 n7 c7) (.bool t7) (.slice o7 p7 d7)) (And.intro (HF.out.2.2.1.other4 (C := (w.heap.size + 1 + 1 + 1)) (by have hx := LTS.out; omega) (.bool s7) (.slice m7 n7 c7) (.bool t7) (.slice o7 p7 d7)) (And.intro (HF.out.2.2.2.1.other4 (C := (w.heap.size + 1 + 1 + 1)) (by have hx := LTS.out; omega) (.bool s7) (.slice m7 n7 c7) (.bool t7) (.slice o7 p7 d7)) (And.intro (HF.out.2.2.2.2.1.other4 (C := (w.heap.size + 1 + 1 + 1)) (by have hx := LTS.out; omega) (.bool s7) (.slice m7 n7 c7) (.bool t7) (.slice o7 p7 d7)) (And.intro (HF.out.2.2.2.2.2.1.other4 (C := (w.heap.size + 1 + 1 + 1)) (by have hx := LTS.out; omega) (.bool s7) (.slice m7 n7 c7) (.bool t7) (.slice o7 p7 d7)) (And.intro (HF.out.2.2.2.2.2.2.1.other4 (C := (w.heap.size + 1 + 1 + 1)) (by have hx := LTS.out; omega) (.bool s7) (.slice m7 n7 c7) (.bool t7) (.slice o7 p7 d7)) (And.intro (HF.out.2.2.2.2.2.2.2.1.keep (R0.out.keeps (by simp) (by simp) (by simp) (by simp) (.bool s7) (.slice m7 n7 c7) (.bool t7) (.slice o7 p7 d7))) (And.intro (HF.out.2.2.2.2.2.2.2.2.1.keep (R0.out.keeps (by simp) (by simp) (by simp) (by simp) (.bool s7) (.slice m7 n7 c7) (.bool t7) (.slice o7 p7 d7))) (HF.out.2.2.2.2.2.2.2.2.2.keep (R0.out.keeps (by simp) (by simp) (by simp) (by simp) (.bool s7) (.slice m7 n7 c7) (.bool t7) (.slice o7 p7 d7))))))))))))
        replace R1 := hide (R1.out.other4 (C := (w.heap.size + 1 + 1 + 1)) (by have hx := LTS.out; omega) (.bool s7) (.slice m7 n7 c7) (.bool t7) (.slice o7 p7 d7))
        replace R2 := hide (R2.out.other4 (C := (w.heap.size + 1 + 1 + 1)) (by have hx := LTS.out; omega) (.bool s7) (.slice m7 n7 c7) (.bool t7) (.slice o7 p7 d7))
        replace R0 := hide (R0.out.put (.bool s7) (.slice m7 n7 c7) (.bool t7) (.slice o7 p7 d7))
        refine hK _ _ (fun _ => HF'.out) ?_
        clear hK K HF hc0 hf0 hc1 hf1 hc2 hf2 hc3 hf3
        have HF := hide HF'.out
        clear HF'
        generalize ((((u3ad.setCell ⟨(w.heap.size + 1 + 1 + 1), 0, none⟩ (.bool s7)).setCell ⟨(w.heap.size + 1 + 1 + 1), 1, none⟩ (.slice m7 n7 c7)).setCell ⟨(w.heap.size + 1 + 1 + 1), 2, none⟩ (.bool t7)).setCell ⟨(w.heap.size + 1 + 1 + 1), 3, none⟩ (.slice o7 p7 d7)) = ws0 at *
        refine Calm.one (i := 19) (l' := #[true, true, true, true, true, true, true, true, true, true, true, true, true, true, true, true, true, true, true, true, false, false]) (by kernel_rfl) rfl rfl rfl fun K hK => ?_
        have hc0 := R1.out.cell0
        have hc1 := R1.out.cell1
        have hc2 := R1.out.cell2
        have hc3 := R1.out.cell3
        have hf0 := R1.out.free 0
        have hf1 := R1.out.free 1
        have hf2 := R1.out.free 2
        have hf3 := R1.out.free 3
        go_simp
        have HF' := hide (And.intro (below_put4 HF.out.1 (show w.heap.size ≤ (w.heap.size + 1 + 1 + 1 + 1) by have hx := LTS.out; omega) (.bool s8) (.slice m8 n8 c8) (.bool t8) (.slice o8 p8 d8)) (And.intro (HF.out.2.1.other4 (C := (w.heap.size + 1 + 1 + 1 + 1)) (by have hx := LTS.out; omega) (.bool s8) (.slice m8 n8 c8) (.bool t8) (.slice o8 p8 d8)) (And.intro (HF.out.2.2.1.other4 (C := (w.heap.size + 1 + 1 + 1 + 1)) (by have hx := LTS.out; omega) (.bool s8) (.slice m8 n8 c8) (.bool t8) (.slice o8 p8 d8)) (And.intro (HF.out.2.2.2.1.other4 (C := (w.heap.size + 1 + 1 + 1 + 1)) (by have hx := LTS.out; omega) (.bool s8) (.slice m8 n8 c8) (.bool t8) (.slice o8 p8 d8)) (And.intro (HF.out.2.2.2.2.1.other4 (C := (w.heap.size + 1 + 1 + 1 + 1)) (by have hx := LTS.out; omega) (.bool s8) (.slice m8 n8 c8) (.bool t8) (.slice o8 p8 d8)) (And.intro (HF.out.2.2.2.2.2.1.other4 (C := (w.heap.size + 1 + 1 + 1 + 1)) (by have hx := LTS.out; omega) (.bool s8) (.slice m8 n8 c8) (.bool t8) (.slice o8 p8 d8)) (And.intro (HF.out.2.2.2.2.2.2.1.other4 (C := (w.heap.size + 1 + 1 + 1 + 1)) (by have hx := LTS.out; omega) (.bool s8) (.slice m8 n8 c8) (.bool t8) (.slice o8 p8 d8)) (And.intro (HF.out.2.2.2.2.2.2.2.1.keep (R1.out.keeps (by simp) (by simp) (by simp) (by simp) (.bool s8) (.slice m8 n8 c8) (.bool t8) (.slice o8 p8 d8))) (And.intro (HF.out.2.2.2.2.2.2.2.2.1.keep (R1.out.keeps (by simp) (by simp) (by simp) (by simp) (.bool s8) (.slice m8 n8 c8) (.bool t8) (.slice o8 p8 d8))) (HF.out.2.2.2.2.2.2.2.2.2.keep (R1.out.keeps (by simp) (by simp) (by simp) (by simp) (.bool s8) (.slice m8 n8 c8) (.bool t8) (.slice o8 p8 d8))))))))))))
        replace R0 := hide (R0.out.other4 (C := (w.heap.size + 1 + 1 + 1 + 1)) (by have hx := LTS.out; omega) (.bool s8) (.slice m8 n8 c8) (.bool t8) (.slice o8 p8 d8))
        replace R2 := hide (R2.out.other4 (C := (w.heap.size + 1 + 1 + 1 + 1)) (by have hx := LTS.out; omega) (.bool s8) (.slice m8 n8 c8) (.bool t8) (.slice o8 p8 d8))
        replace R1 := hide (R1.out.put (.bool s8) (.slice m8 n8 c8) (.bool t8) (.slice o8 p8 d8))
        refine hK _ _ (fun _ => HF'.out) ?_
        clear hK K HF hc0 hf0 hc1 hf1 hc2 hf2 hc3 hf3
        have HF := hide HF'.out
        clear HF'
        generalize ((((ws0.setCell ⟨(w.heap.size + 1 + 1 + 1 + 1), 0, none⟩ (.bool s8)).setCell ⟨(w.heap.size + 1 + 1 + 1 + 1), 1, none⟩ (.slice m8 n8 c8)).setCell ⟨(w.heap.size + 1 + 1 + 1 + 1), 2, none⟩ (.bool t8)).setCell ⟨(w.heap.size + 1 + 1 + 1 + 1), 3, none⟩ (.slice o8 p8 d8)) = ws1 at *
        refine Calm.one (i := 20) (l' := #[true, true, true, true, true, true, true, true, true, true, true, true, true, true, true, true, true, true, true, true, true, false]) (by kernel_rfl) rfl rfl rfl fun K hK => ?_
        have hc0 := R2.out.cell0
        have hc1 := R2.out.cell1
        have hc2 := R2.out.cell2
        have hc3 := R2.out.cell3
        have hf0 := R2.out.free 0
        have hf1 := R2.out.free 1
        have hf2 := R2.out.free 2
        have hf3 := R2.out.free 3
        go_simp
        have HF' := hide (And.intro (below_put4 HF.out.1 (show w.heap.size ≤ (w.heap.size + 1 + 1 + 1 + 1 + 1) by have hx := LTS.out; omega) (.bool s9) (.slice m9 n9 c9) (.bool t9) (.slice o9 p9 d9)) (And.intro (HF.out.2.1.other4 (C := (w.heap.size + 1 + 1 + 1 + 1 + 1)) (by have hx := LTS.out; omega) (.bool s9) (.slice m9 n9 c9) (.bool t9) (.slice o9 p9 d9)) (And.intro (HF.out.2.2.1.other4 (C := (w.heap.size + 1 + 1 + 1 + 1 + 1)) (by have hx := LTS.out; omega) (.bool s9) (.slice m9 n9 c9) (.bool t9) (.slice o9 p9 d9)) (And.intro (HF.out.2.2.2.1.other4 (C := (w.heap.size + 1 + 1 + 1 + 1 + 1)) (by have hx := LTS.out; omega) (.bool s9) (.slice m9 n9 c9) (.bool t9) (.slice o9 p9 d9)) (And.intro (HF.out.2.2.2.2.1.other4 (C := (w.heap.size + 1 + 1 + 1 + 1 + 1)) (by have hx := LTS.out; omega) (.bool s9) (.slice m9 n9 c9) (.bool t9) (.slice o9 p9 d9)) (And.intro (HF.out.2.2.2.2.2.1.other4 (C := (w.heap.size + 1 + 1 + 1 + 1 + 1)) (by have hx := LTS.out; omega) (.bool s9) (.slice m9 n9 c9) (.bool t9) (.slice o9 p9 d9)) (And.intro (HF.out.2.2.2.2.2.2.1.other4 (C := (w.heap.size + 1 + 1 + 1 + 1 + 1)) (by have hx := LTS.out; omega) (.bool s9) (.slice m9 n9 c9) (.bool t9) (.slice o9 p9 d9)) (And.intro (HF.out.2.2.2.2.2.2.2.1.keep (R2.out.keeps (by simp) (by simp) (by simp) (by simp) (.bool s9) (.slice m9 n9 c9) (.bool t9) (.slice o9 p9 d9))) (And.intro (HF.out.2.2.2.2.2.2.2.2.1.keep (R2.out.keeps (by simp) (by simp) (by simp) (by simp) (.bool s9) (.slice m9 n9 c9) (.bool t9) (.slice o9 p9 d9))) (HF.out.2.2.2.2.2.2.2.2.2.keep (R2.out.keeps (by simp) (by simp) (by simp) (by simp) (.bool s9) (.slice m9 n9 c9) (.bool t9) (.slice o9 p9 d9))))))))))))
        replace R0 := hide (R0.out.other4 (C := (w.heap.size + 1 + 1 + 1 + 1 + 1)) (by have hx := LTS.out; omega) (.bool s9) (.slice m9 n9 c9) (.bool t9) (.slice o9 p9 d9))
        replace R1 := hide (R1.out.other4 (C := (w.heap.size + 1 + 1 + 1 + 1 + 1)) (by have hx := LTS.out; omega) (.bool s9) (.slice m9 n9 c9) (.bool t9) (.slice o9 p9 d9))
        replace R2 := hide (R2.out.put (.bool s9) (.slice m9 n9 c9) (.bool t9) (.slice o9 p9 d9))
        refine hK _ _ (fun _ => HF'.out) ?_
        clear hK K HF hc0 hf0 hc1 hf1 hc2 hf2 hc3 hf3
        have HF := hide HF'.out
        clear HF'
        generalize ((((ws1.setCell ⟨(w.heap.size + 1 + 1 + 1 + 1 + 1), 0, none⟩ (.bool s9)).setCell ⟨(w.heap.size + 1 + 1 + 1 + 1 + 1), 1, none⟩ (.slice m9 n9 c9)).setCell ⟨(w.heap.size + 1 + 1 + 1 + 1 + 1), 2, none⟩ (.bool t9)).setCell ⟨(w.heap.size + 1 + 1 + 1 + 1 + 1), 3, none⟩ (.slice o9 p9 d9)) = ws2 at *
        refine Calm.take (i := 21) (v := ?_) (a' := ?_) (l' := #[true, true, true, true, true, true, true, true, true, true, true, true, true, true, true, true, true, true, true, true, true, true]) (d := some 9) rfl (by kernel_rfl) (by kernel_rfl) (by kernel_rfl) (by kernel_rfl) (fun _ _ _ h => h) HF.out rfl ?_ rfl rfl ?_ ?_
        rotate_left
        · intro w' hF; clear hF; go_simp; try rfl
        rotate_left
        · simp only [Act.put]; exact rfl
        refine Calm.done (by kernel_rfl) ?_
        replace HB := hide HF.out.1
        replace P0 := hide HF.out.2.1
        replace P1 := hide HF.out.2.2.1
        replace P2 := hide HF.out.2.2.2.1
        replace V0 := hide HF.out.2.2.2.2.1
        replace V1 := hide HF.out.2.2.2.2.2.1
        replace V2 := hide HF.out.2.2.2.2.2.2.1
        replace I0 := hide HF.out.2.2.2.2.2.2.2.1
        replace I1 := hide HF.out.2.2.2.2.2.2.2.2.1
        replace I2 := hide HF.out.2.2.2.2.2.2.2.2.2
        clear HF
        refine (by assumption : ∀ (a : Act) (w : World), Code.wp Try.prog Code.ret _ a w → _) _ _ ?_
        refine wp_ret ?_
        refine ret_three rfl (w.heap.size + 1 + 1 + 1) (w.heap.size + 1 + 1 + 1 + 1) (w.heap.size + 1 + 1 + 1 + 1 + 1) _ _ _ _ _ _ _ _ _ _ _ _ false (by kernel_rfl) (by kernel_rfl) (by kernel_rfl) (by kernel_rfl) R0.out R1.out R2.out rfl ?_
        exact ⟨⟨_, _, _, x, y, z, false, rfl, I0.out, I1.out, I2.out, Z0.out, Z1.out, Z2.out⟩, HB.out⟩
      | true =>
        replace R0 := hide R0.out.drew
        replace R1 := hide R1.out.drew
        replace R2 := hide R2.out.drew
        refine wp_calm (fun w' => Below w.heap.size w w' ∧ BoxF w' w.heap.size (.string b0) (.string b1) ∧ BoxF w' (w.heap.size + 1) (.string b2) (.string b3) ∧ BoxF w' (w.heap.size + 1 + 1) (.string b4) (.string b5) ∧ Box4 w' ga (.bool s7) (.slice m7 n7 c7) (.bool t7) (.slice o7 p7 d7) ∧ Box4 w' gb (.bool s8) (.slice m8 n8 c8) (.bool t8) (.slice o8 p8 d8) ∧ Box4 w' gc (.bool s9) (.slice m9 n9 c9) (.bool t9) (.slice o9 p9 d9) ∧ RatAt w' (.agg #[.bool s7, .slice m7 n7 c7, .bool t7, .slice o7 p7 d7]) x ∧ RatAt w' (.agg #[.bool s8, .slice m8 n8 c8, .bool t8, .slice o8 p8 d8]) y ∧ RatAt w' (.agg #[.bool s9, .slice m9 n9 c9, .bool t9, .slice o9 p9 d9]) z) (fun _ => true) 22 #[false, false, false, false, false, false, false, false, false, false, false, false, false, false, false, false, false, false, false, false, false, false] (by kernel_rfl) rfl rfl ?_
        have HF := hide (And.intro (HB.out.drew) (And.intro (P0.out.drew) (And.intro (P1.out.drew) (And.intro (P2.out.drew) (And.intro (V0.out.drew) (And.intro (V1.out.drew) (And.intro (V2.out.drew) (And.intro (I0.out.drew) (And.intro (I1.out.drew) (I2.out.drew))))))))))
        generalize u3a.drew = u3ad at *
        refine Calm.take (i := 0) (v := ?_) (a' := ?_) (l' := #[true, false, false, false, false, false, false, false, false, false, false, false, false, false, false, false, false, false, false, false, false, false]) (d := some 31) rfl (by kernel_rfl) (by kernel_rfl) (by kernel_rfl) (by kernel_rfl) (fun _ _ _ h => h) HF.out rfl ?_ rfl rfl ?_ ?_
        rotate_left
        · intro w' hF; have f10 := hF.2.1.cell0; have f11 := hF.2.1.cell1; have f20 := hF.2.2.1.cell0; have f21 := hF.2.2.1.cell1; have f30 := hF.2.2.2.1.cell0; have f31 := hF.2.2.2.1.cell1; have f40 := hF.2.2.2.2.1.cell0; have f41 := hF.2.2.2.2.1.cell1; have f42 := hF.2.2.2.2.1.cell2; have f43 := hF.2.2.2.2.1.cell3; have f50 := hF.2.2.2.2.2.1.cell0; have f51 := hF.2.2.2.2.2.1.cell1; have f52 := hF.2.2.2.2.2.1.cell2; have f53 := hF.2.2.2.2.2.1.cell3; have f60 := hF.2.2.2.2.2.2.1.cell0; have f61 := hF.2.2.2.2.2.2.1.cell1; have f62 := hF.2.2.2.2.2.2.1.cell2; have f63 := hF.2.2.2.2.2.2.1.cell3; clear hF; go_simp; try rfl
        rotate_left
        · simp only [Act.put]; exact rfl
        refine Calm.take (i := 1) (v := ?_) (a' := ?_) (l' := #[true, true, false, false, false, false, false, false, false, false, false, false, false, false, false, false, false, false, false, false, false, false]) (d := some 32) rfl (by kernel_rfl) (by kernel_rfl) (by kernel_rfl) (by kernel_rfl) (fun _ _ _ h => h) HF.out rfl ?_ rfl rfl ?_ ?_
        rotate_left
        · intro w' hF; have f10 := hF.2.1.cell0; have f11 := hF.2.1.cell1; have f20 := hF.2.2.1.cell0; have f21 := hF.2.2.1.cell1; have f30 := hF.2.2.2.1.cell0; have f31 := hF.2.2.2.1.cell1; have f40 := hF.2.2.2.2.1.cell0; have f41 := hF.2.2.2.2.1.cell1; have f42 := hF.2.2.2.2.1.cell2; have f43 := hF.2.2.2.2.1.cell3; have f50 := hF.2.2.2.2.2.1.cell0; have f51 := hF.2.2.2.2.2.1.cell1; have f52 := hF.2.2.2.2.2.1.cell2; have f53 := hF.2.2.2.2.2.1.cell3; have f60 := hF.2.2.2.2.2.2.1.cell0; have f61 := hF.2.2.2.2.2.2.1.cell1; have f62 := hF.2.2.2.2.2.2.1.cell2; have f63 := hF.2.2.2.2.2.2.1.cell3; clear hF; go_simp; try rfl
        rotate_left
        · simp only [Act.put]; exact rfl
        refine Calm.take (i := 2) (v := ?_) (a' := ?_) (l' := #[true, true, true, false, false, false, false, false, false, false, false, false, false, false, false, false, false, false, false, false, false, false]) (d := some 33) rfl (by kernel_rfl) (by kernel_rfl) (by kernel_rfl) (by kernel_rfl) (fun _ _ _ h => h) HF.out rfl ?_ rfl rfl ?_ ?_
        rotate_left
        · intro w' hF; have f10 := hF.2.1.cell0; have f11 := hF.2.1.cell1; have f20 := hF.2.2.1.cell0; have f21 := hF.2.2.1.cell1; have f30 := hF.2.2.2.1.cell0; have f31 := hF.2.2.2.1.cell1; have f40 := hF.2.2.2.2.1.cell0; have f41 := hF.2.2.2.2.1.cell1; have f42 := hF.2.2.2.2.1.cell2; have f43 := hF.2.2.2.2.1.cell3; have f50 := hF.2.2.2.2.2.1.cell0; have f51 := hF.2.2.2.2.2.1.cell1; have f52 := hF.2.2.2.2.2.1.cell2; have f53 := hF.2.2.2.2.2.1.cell3; have f60 := hF.2.2.2.2.2.2.1.cell0; have f61 := hF.2.2.2.2.2.2.1.cell1; have f62 := hF.2.2.2.2.2.2.1.cell2; have f63 := hF.2.2.2.2.2.2.1.cell3; clear hF; go_simp; try rfl
        rotate_left
        · simp only [Act.put]; exact rfl
        refine Calm.take (i := 3) (v := ?_) (a' := ?_) (l' := #[true, true, true, true, false, false, false, false, false, false, false, false, false, false, false, false, false, false, false, false, false, false]) (d := some 34) rfl (by kernel_rfl) (by kernel_rfl) (by kernel_rfl) (by kernel_rfl) (fun _ _ _ h => h) HF.out rfl ?_ rfl rfl ?_ ?_
        rotate_left
        · intro w' hF; clear hF; go_simp; try rfl
        rotate_left
        · simp only [Act.put]; exact rfl
        refine Calm.take (i := 4) (v := ?_) (a' := ?_) (l' := #[true, true, true, true, true, false, false, false, false, false, false, false, false, false, false, false, false, false, false, false, false, false]) (d := some 35) rfl (by kernel_rfl) (by kernel_rfl) (by kernel_rfl) (by kernel_rfl) (fun _ _ _ h => h) HF.out rfl ?_ rfl rfl ?_ ?_
        rotate_left
        · intro w' hF; clear hF; go_simp; try rfl
        rotate_left
        · simp only [Act.put]; exact rfl
        refine Calm.take (i := 5) (v := ?_) (a' := ?_) (l' := #[true, true, true, true, true, true, false, false, false, false, false, false, false, false, false, false, false, false, false, false, false, false]) (d := some 36) rfl (by kernel_rfl) (by kernel_rfl) (by kernel_rfl) (by kernel_rfl) (fun _ _ _ h => h) HF.out (by kernel_rfl) ?_ rfl rfl ?_ ?_
        rotate_left
        · intro w' hF; clear hF; go_simp; try rfl
        rotate_left
        · simp only [Act.put]; exact rfl
        refine Calm.take (i := 6) (v := ?_) (a' := ?_) (l' := #[true, true, true, true, true, true, true, false, false, false, false, false, false, false, false, false, false, false, false, false, false, false]) (d := some 37) rfl (by kernel_rfl) (by kernel_rfl) (by kernel_rfl) (by kernel_rfl) (fun _ _ _ h => h) HF.out rfl ?_ rfl rfl ?_ ?_
        rotate_left
        · intro w' hF; clear hF; go_simp; try rfl
        rotate_left
        · simp only [Act.put]; exact rfl
        refine Calm.take (i := 7) (v := ?_) (a' := ?_) (l' := #[true, true, true, true, true, true, true, true, false, false, false, false, false, false, false, false, false, false, false, false, false, false]) (d := some 38) rfl (by kernel_rfl) (by kernel_rfl) (by kernel_rfl) (by kernel_rfl) (fun _ _ _ h => h) HF.out rfl ?_ rfl rfl ?_ ?_
        rotate_left
        · intro w' hF; clear hF; go_simp; try rfl
        rotate_left
        · simp only [Act.put]; exact rfl
        refine Calm.take (i := 8) (v := ?_) (a' := ?_) (l' := #[true, true, true, true, true, true, true, true, true, false, false, false, false, false, false, false, false, false, false, false, false, false]) (d := some 39) rfl (by kernel_rfl) (by kernel_rfl) (by kernel_rfl) (by kernel_rfl) (fun _ _ _ h => h) HF.out (by kernel_rfl) ?_ rfl rfl ?_ ?_
        rotate_left
        · intro w' hF; clear hF; go_simp; try rfl
        rotate_left
        · simp only [Act.put]; exact rfl
        refine Calm.take (i := 9) (v := ?_) (a' := ?_) (l' := #[true, true, true, true, true, true, true, true, true, true, false, false, false, false, false, false, false, false, false, false, false, false]) (d := some 40) rfl (by kernel_rfl) (by kernel_rfl) (by kernel_rfl) (by kernel_rfl) (fun _ _ _ h => h) HF.out rfl ?_ rfl rfl ?_ ?_
        rotate_left
        · intro w' hF; clear hF; go_simp; try rfl
        rotate_left
        · simp only [Act.put]; exact rfl
        refine Calm.take (i := 10) (v := ?_) (a' := ?_) (l' := #[true, true, true, true, true, true, true, true, true, true, true, false, false, false, false, false, false, false, false, false, false, false]) (d := some 41) rfl (by kernel_rfl) (by kernel_rfl) (by kernel_rfl) (by kernel_rfl) (fun _ _ _ h => h) HF.out rfl ?_ rfl rfl ?_ ?_
        rotate_left
        · intro w' hF; clear hF; go_simp; try rfl
        rotate_left
        · simp only [Act.put]; exact rfl
        refine Calm.take (i := 11) (v := ?_) (a' := ?_) (l' := #[true, true, true, true, true, true, true, true, true, true, true, true, false, false, false, false, false, false, false, false, false, false]) (d := some 42) rfl (by kernel_rfl) (by kernel_rfl) (by kernel_rfl) (by kernel_rfl) (fun _ _ _ h => h) HF.out (by kernel_rfl) ?_ rfl rfl ?_ ?_
        rotate_left
        · intro w' hF; have f10 := hF.2.1.cell0; have f11 := hF.2.1.cell1; have f20 := hF.2.2.1.cell0; have f21 := hF.2.2.1.cell1; have f30 := hF.2.2.2.1.cell0; have f31 := hF.2.2.2.1.cell1; have f40 := hF.2.2.2.2.1.cell0; have f41 := hF.2.2.2.2.1.cell1; have f42 := hF.2.2.2.2.1.cell2; have f43 := hF.2.2.2.2.1.cell3; have f50 := hF.2.2.2.2.2.1.cell0; have f51 := hF.2.2.2.2.2.1.cell1; have f52 := hF.2.2.2.2.2.1.cell2; have f53 := hF.2.2.2.2.2.1.cell3; have f60 := hF.2.2.2.2.2.2.1.cell0; have f61 := hF.2.2.2.2.2.2.1.cell1; have f62 := hF.2.2.2.2.2.2.1.cell2; have f63 := hF.2.2.2.2.2.2.1.cell3; clear hF; go_simp; try rfl
        rotate_left
        · simp only [Act.put]; exact rfl
        refine Calm.take (i := 12) (v := ?_) (a' := ?_) (l' := #[true, true, true, true, true, true, true, true, true, true, true, true, true, false, false, false, false, false, false, false, false, false]) (d := some 43) rfl (by kernel_rfl) (by kernel_rfl) (by kernel_rfl) (by kernel_rfl) (fun _ _ _ h => h) HF.out (by kernel_rfl) ?_ rfl rfl ?_ ?_
        rotate_left
        · intro w' hF; have f10 := hF.2.1.cell0; have f11 := hF.2.1.cell1; have f20 := hF.2.2.1.cell0; have f21 := hF.2.2.1.cell1; have f30 := hF.2.2.2.1.cell0; have f31 := hF.2.2.2.1.cell1; have f40 := hF.2.2.2.2.1.cell0; have f41 := hF.2.2.2.2.1.cell1; have f42 := hF.2.2.2.2.1.cell2; have f43 := hF.2.2.2.2.1.cell3; have f50 := hF.2.2.2.2.2.1.cell0; have f51 := hF.2.2.2.2.2.1.cell1; have f52 := hF.2.2.2.2.2.1.cell2; have f53 := hF.2.2.2.2.2.1.cell3; have f60 := hF.2.2.2.2.2.2.1.cell0; have f61 := hF.2.2.2.2.2.2.1.cell1; have f62 := hF.2.2.2.2.2.2.1.cell2; have f63 := hF.2.2.2.2.2.2.1.cell3; clear hF; go_simp; try rfl
        rotate_left
        · simp only [Act.put]; exact rfl
        refine Calm.take (i := 13) (v := ?_) (a' := ?_) (l' := #[true, true, true, true, true, true, true, true, true, true, true, true, true, true, false, false, false, false, false, false, false, false]) (d := some 44) rfl (by kernel_rfl) (by kernel_rfl) (by kernel_rfl) (by kernel_rfl) (fun _ _ _ h => h) HF.out (by kernel_rfl) ?_ rfl rfl ?_ ?_
        rotate_left
        · intro w' hF; have f10 := hF.2.1.cell0; have f11 := hF.2.1.cell1; have f20 := hF.2.2.1.cell0; have f21 := hF.2.2.1.cell1; have f30 := hF.2.2.2.1.cell0; have f31 := hF.2.2.2.1.cell1; have f40 := hF.2.2.2.2.1.cell0; have f41 := hF.2.2.2.2.1.cell1; have f42 := hF.2.2.2.2.1.cell2; have f43 := hF.2.2.2.2.1.cell3; have f50 := hF.2.2.2.2.2.1.cell0; have f51 := hF.2.2.2.2.2.1.cell1; have f52 := hF.2.2.2.2.2.1.cell2; have f53 := hF.2.2.2.2.2.1.cell3; have f60 := hF.2.2.2.2.2.2.1.cell0; have f61 := hF.2.2.2.2.2.2.1.cell1; have f62 := hF.2.2.2.2.2.2.1.cell2; have f63 := hF.2.2.2.2.2.2.1.cell3; clear hF; go_simp; try rfl
        rotate_left
        · simp only [Act.put]; exact rfl
        refine Calm.one (i := 14) (l' := #[true, true, true, true, true, true, true, true, true, true, true, true, true, true, true, false, false, false, false, false, false, false]) (by kernel_rfl) rfl (by kernel_rfl) rfl fun K hK => ?_
        go_simp
        have al := below_alloc u3ad (.cells #[.string b0, .string b1, .string b2, .string b3, .string b4, .string b5] 51)
        have HF' := hide (And.intro (HF.out.1.trans ((al).mono HF.out.1.size)) (And.intro (HF.out.2.1.step (al)) (And.intro (HF.out.2.2.1.step (al)) (And.intro (HF.out.2.2.2.1.step (al)) (And.intro (HF.out.2.2.2.2.1.step (al)) (And.intro (HF.out.2.2.2.2.2.1.step (al)) (And.intro (HF.out.2.2.2.2.2.2.1.step (al)) (And.intro (HF.out.2.2.2.2.2.2.2.1.below (al)) (And.intro (HF.out.2.2.2.2.2.2.2.2.1.below (al)) (HF.out.2.2.2.2.2.2.2.2.2.below (al)))))))))))
        have BXl := hide (fracs_lit3 (w := u3ad) (t := 51) l0 l1 l2 l3 l4 l5)
        replace R0 := hide (R0.out.step (al))
        replace R1 := hide (R1.out.step (al))
        replace R2 := hide (R2.out.step (al))
        have LT1l := hide (HF.out.2.1.lt)
        have LT2l := hide (HF.out.2.2.1.lt)
        have LT3l := hide (HF.out.2.2.2.1.lt)
        have LT4l := hide (HF.out.2.2.2.2.1.lt)
        have LT5l := hide (HF.out.2.2.2.2.2.1.lt)
        have LT6l := hide (HF.out.2.2.2.2.2.2.1.lt)
        have GEl := hide (HF.out.1.size)
        refine hK _ _ (fun _ => HF'.out) ?_
        clear hK K HF al
        have HF := hide HF'.out
        clear HF'
        generalize u3ad.alloc (.cells #[.string b0, .string b1, .string b2, .string b3, .string b4, .string b5] 51) = wzl at *
        generalize u3ad.heap.size = gl at *
        refine Calm.one (i := 15) (l' := #[true, true, true, true, true, true, true, true, true, true, true, true, true, true, true, true, false, false, false, false, false, false]) (by kernel_rfl) rfl (by kernel_rfl) rfl fun K hK => ?_
        go_simp
        refine (long3_any _ 3 _ BXl.out).mono ?_
        rintro e u9 ⟨⟨r, rfl⟩, hb⟩
        replace R0 := hide (R0.out.step (hb))
        replace R1 := hide (R1.out.step (hb))
        replace R2 := hide (R2.out.step (hb))
        replace BXl := hide (BXl.out.below hb)
        have HF' := hide (And.intro (HF.out.1.trans ((hb).mono HF.out.1.size)) (And.intro (HF.out.2.1.step (hb)) (And.intro (HF.out.2.2.1.step (hb)) (And.intro (HF.out.2.2.2.1.step (hb)) (And.intro (HF.out.2.2.2.2.1.step (hb)) (And.intro (HF.out.2.2.2.2.2.1.step (hb)) (And.intro (HF.out.2.2.2.2.2.2.1.step (hb)) (And.intro (HF.out.2.2.2.2.2.2.2.1.below (hb)) (And.intro (HF.out.2.2.2.2.2.2.2.2.1.below (hb)) (HF.out.2.2.2.2.2.2.2.2.2.below (hb)))))))))))
        refine hK _ _ (fun _ => HF'.out) ?_
        clear hK K HF hb
        have HF := hide HF'.out
        clear HF'
        refine Calm.take (i := 16) (v := ?_) (a' := ?_) (l' := #[true, true, true, true, true, true, true, true, true, true, true, true, true, true, true, true, true, false, false, false, false, false]) (d := some 47) rfl (by kernel_rfl) (by kernel_rfl) (by kernel_rfl) (by kernel_rfl) (fun _ _ _ h => h) HF.out (by kernel_rfl) ?_ rfl rfl ?_ ?_
        rotate_left
        · intro w' hF; clear hF; go_simp; try rfl
        rotate_left
        · simp only [Act.put]; exact rfl
        refine Calm.take (i := 17) (v := ?_) (a' := ?_) (l' := #[true, true, true, true, true, true, true, true, true, true, true, true, true, true, true, true, true, true, false, false, false, false]) (d := some 48) rfl (by kernel_rfl) (by kernel_rfl) (by kernel_rfl) (by kernel_rfl) (fun _ _ _ h => h) HF.out rfl ?_ rfl rfl ?_ ?_
        rotate_left
        · intro w' hF; clear hF; go_simp; try rfl
        rotate_left
        · simp only [Act.put]; exact rfl
        refine Calm.one (i := 18) (l' := #[true, true, true, true, true, true, true, true, true, true, true, true, true, true, true, true, true, true, true, false, false, false]) (by kernel_rfl) rfl rfl rfl fun K hK => ?_
        have hc0 := R0.out.cell0
        have hc1 := R0.out.cell1
        have hc2 := R0.out.cell2
        have hc3 := R0.out.cell3
        have hf0 := R0.out.free 0
        have hf1 := R0.out.free 1
        have hf2 := R0.out.free 2
        have hf3 := R0.out.free 3
        go_simp
        have HF' := hide (And.intro (below_put4 HF.out.1 (show w.heap.size ≤ (w.heap.size + 1 + 1 + 1) by have hx := LTS.out; omega) (.bool s7) (.slice m7 n7 c7) (.bool t7) (.slice o7 p7 d7)) (And.intro (HF.out.2.1.other4 (C := (w.heap.size + 1 + 1 + 1)) (by have hx := LTS.out; omega) (.bool s7) (.slice m7 n7 c7) (.bool t7) (.slice o7 p7 d7)) (And.intro (HF.out.2.2.1.other4 (C := (w.heap.size + 1 + 1 + 1)) (by have hx := LTS.out; omega) (.bool s7) (.slice m7 n7 c7) (.bool t7) (.slice o7 p7 d7)) (And.intro (HF.out.2.2.2.1.other4 (C := (w.heap.size + 1 + 1 + 1)) (by have hx := LTS.out; omega) (.bool s7) (.slice m7 n7 c7) (.bool t7) (.slice o7 p7 d7)) (And.intro (HF.out.2.2.2.2.1.other4 (C := (w.heap.size + 1 + 1 + 1)) (by have hx := LTS.out; omega) (.bool s7) (.slice m7 n7 c7) (.bool t7) (.slice o7 p7 d7)) (And.intro (HF.out.2.2.2.2.2.1.other4 (C := (w.heap.size + 1 + 1 + 1)) (by have hx := LTS.out; omega) (.bool s7) (.slice m7 n7 c7) (.bool t7) (.slice o7 p7 d7)) (And.intro (HF.out.2.2.2.2.2.2.1.other4 (C := (w.heap.size + 1 + 1 + 1)) (by have hx := LTS.out; omega) (.bool s7) (.slice m7 n7 c7) (.bool t7) (.slice o7 p7 d7)) (And.intro (HF.out.2.2.2.2.2.2.2.1.keep (R0.out.keeps (by simp) (by simp) (by simp) (by simp) (.bool s7) (.slice m7 n7 c7) (.bool t7) (.slice o7 p7 d7))) (And.intro (HF.out.2.2.2.2.2.2.2.2.1.keep (R0.out.keeps (by simp) (by simp) (by simp) (by simp) (.bool s7) (.slice m7 n7 c7) (.bool t7) (.slice o7 p7 d7))) (HF.out.2.2.2.2.2.2.2.2.2.keep (R0.out.keeps (by simp) (by simp) (by simp) (by simp) (.bool s7) (.slice m7 n7 c7) (.bool t7) (.slice o7 p7 d7))))))))))))
        replace R1 := hide (R1.out.other4 (C := (w.heap.size + 1 + 1 + 1)) (by have hx := LTS.out; omega) (.bool s7) (.slice m7 n7 c7) (.bool t7) (.slice o7 p7 d7))
        replace R2 := hide (R2.out.other4 (C := (w.heap.size + 1 + 1 + 1)) (by have hx := LTS.out; omega) (.bool s7) (.slice m7 n7 c7) (.bool t7) (.slice o7 p7 d7))
        clear BXl
        replace R0 := hide (R0.out.put (.bool s7) (.slice m7 n7 c7) (.bool t7) (.slice o7 p7 d7))
        refine hK _ _ (fun _ => HF'.out) ?_
        clear hK K HF hc0 hf0 hc1 hf1 hc2 hf2 hc3 hf3
        have HF := hide HF'.out
        clear HF'
        generalize ((((u9.setCell ⟨(w.heap.size + 1 + 1 + 1), 0, none⟩ (.bool s7)).setCell ⟨(w.heap.size + 1 + 1 + 1), 1, none⟩ (.slice m7 n7 c7)).setCell ⟨(w.heap.size + 1 + 1 + 1), 2, none⟩ (.bool t7)).setCell ⟨(w.heap.size + 1 + 1 + 1), 3, none⟩ (.slice o7 p7 d7)) = ws0 at *
        refine Calm.one (i := 19) (l' := #[true, true, true, true, true, true, true, true, true, true, true, true, true, true, true, true, true, true, true, true, false, false]) (by kernel_rfl) rfl rfl rfl fun K hK => ?_
        have hc0 := R1.out.cell0
        have hc1 := R1.out.cell1
        have hc2 := R1.out.cell2
        have hc3 := R1.out.cell3
        have hf0 := R1.out.free 0
        have hf1 := R1.out.free 1
        have hf2 := R1.out.free 2
        have hf3 := R1.out.free 3
        go_simp
        have HF' := hide (And.intro (below_put4 HF.out.1 (show w.heap.size ≤ (w.heap.size + 1 + 1 + 1 + 1) by have hx := LTS.out; omega) (.bool s8) (.slice m8 n8 c8) (.bool t8) (.slice o8 p8 d8)) (And.intro (HF.out.2.1.other4 (C := (w.heap.size + 1 + 1 + 1 + 1)) (by have hx := LTS.out; omega) (.bool s8) (.slice m8 n8 c8) (.bool t8) (.slice o8 p8 d8)) (And.intro (HF.out.2.2.1.other4 (C := (w.heap.size + 1 + 1 + 1 + 1)) (by have hx := LTS.out; omega) (.bool s8) (.slice m8 n8 c8) (.bool t8) (.slice o8 p8 d8)) (And.intro (HF.out.2.2.2.1.other4 (C := (w.heap.size + 1 + 1 + 1 + 1)) (by have hx := LTS.out; omega) (.bool s8) (.slice m8 n8 c8) (.bool t8) (.slice o8 p8 d8)) (And.intro (HF.out.2.2.2.2.1.other4 (C := (w.heap.size + 1 + 1 + 1 + 1)) (by have hx := LTS.out; omega) (.bool s8) (.slice m8 n8 c8) (.bool t8) (.slice o8 p8 d8)) (And.intro (HF.out.2.2.2.2.2.1.other4 (C := (w.heap.size + 1 + 1 + 1 + 1)) (by have hx := LTS.out; omega) (.bool s8) (.slice m8 n8 c8) (.bool t8) (.slice o8 p8 d8)) (And.intro (HF.out.2.2.2.2.2.2.1.other4 (C := (w.heap.size + 1 + 1 + 1 + 1)) (by have hx := LTS.out; omega) (.bool s8) (.slice m8 n8 c8) (.bool t8) (.slice o8 p8 d8)) (And.intro (HF.out.2.2.2.2.2.2.2.1.keep (R1.out.keeps (by simp) (by simp) (by simp) (by simp) (.bool s8) (.slice m8 n8 c8) (.bool t8) (.slice o8 p8 d8))) (And.intro (HF.out.2.2.2.2.2.2.2.2.1.keep (R1.out.keeps (by simp) (by simp) (by simp) (by simp) (.bool s8) (.slice m8 n8 c8) (.bool t8) (.slice o8 p8 d8))) (HF.out.2.2.2.2.2.2.2.2.2.keep (R1.out.keeps (by simp) (by simp) (by simp) (by simp) (.bool s8) (.slice m8 n8 c8) (.bool t8) (.slice o8 p8 d8))))))))))))
        replace R0 := hide (R0.out.other4 (C := (w.heap.size + 1 + 1 + 1 + 1)) (by have hx := LTS.out; omega) (.bool s8) (.slice m8 n8 c8) (.bool t8) (.slice o8 p8 d8))
        replace R2 := hide (R2.out.other4 (C := (w.heap.size + 1 + 1 + 1 + 1)) (by have hx := LTS.out; omega) (.bool s8) (.slice m8 n8 c8) (.bool t8) (.slice o8 p8 d8))
        replace R1 := hide (R1.out.put (.bool s8) (.slice m8 n8 c8) (.bool t8) (.slice o8 p8 d8))
        refine hK _ _ (fun _ => HF'.out) ?_
        clear hK K HF hc0 hf0 hc1 hf1 hc2 hf2 hc3 hf3
        have HF := hide HF'.out
        clear HF'
        generalize ((((ws0.setCell ⟨(w.heap.size + 1 + 1 + 1 + 1), 0, none⟩ (.bool s8)).setCell ⟨(w.heap.size + 1 + 1 + 1 + 1), 1, none⟩ (.slice m8 n8 c8)).setCell ⟨(w.heap.size + 1 + 1 + 1 + 1), 2, none⟩ (.bool t8)).setCell ⟨(w.heap.size + 1 + 1 + 1 + 1), 3, none⟩ (.slice o8 p8 d8)) = ws1 at *
        refine Calm.one (i := 20) (l' := #[true, true, true, true, true, true, true, true, true, true, true, true, true, true, true, true, true, true, true, true, true, false]) (by kernel_rfl) rfl rfl rfl fun K hK => ?_
        have hc0 := R2.out.cell0
        have hc1 := R2.out.cell1
        have hc2 := R2.out.cell2
        have hc3 := R2.out.cell3
        have hf0 := R2.out.free 0
        have hf1 := R2.out.free 1
        have hf2 := R2.out.free 2
        have hf3 := R2.out.free 3
        go_simp
        have HF' := hide (And.intro (below_put4 HF.out.1 (show w.heap.size ≤ (w.heap.size + 1 + 1 + 1 + 1 + 1) by have hx := LTS.out; omega) (.bool s9) (.slice m9 n9 c9) (.bool t9) (.slice o9 p9 d9)) (And.intro (HF.out.2.1.other4 (C := (w.heap.size + 1 + 1 + 1 + 1 + 1)) (by have hx := LTS.out; omega) (.bool s9) (.slice m9 n9 c9) (.bool t9) (.slice o9 p9 d9)) (And.intro (HF.out.2.2.1.other4 (C := (w.heap.size + 1 + 1 + 1 + 1 + 1)) (by have hx := LTS.out; omega) (.bool s9) (.slice m9 n9 c9) (.bool t9) (.slice o9 p9 d9)) (And.intro (HF.out.2.2.2.1.other4 (C := (w.heap.size + 1 + 1 + 1 + 1 + 1)) (by have hx := LTS.out; omega) (.bool s9) (.slice m9 n9 c9) (.bool t9) (.slice o9 p9 d9)) (And.intro (HF.out.2.2.2.2.1.other4 (C := (w.heap.size + 1 + 1 + 1 + 1 + 1)) (by have hx := LTS.out; omega) (.bool s9) (.slice m9 n9 c9) (.bool t9) (.slice o9 p9 d9)) (And.intro (HF.out.2.2.2.2.2.1.other4 (C := (w.heap.size + 1 + 1 + 1 + 1 + 1)) (by have hx := LTS.out; omega) (.bool s9) (.slice m9 n9 c9) (.bool t9) (.slice o9 p9 d9)) (And.intro (HF.out.2.2.2.2.2.2.1.other4 (C := (w.heap.size + 1 + 1 + 1 + 1 + 1)) (by have hx := LTS.out; omega) (.bool s9) (.slice m9 n9 c9) (.bool t9) (.slice o9 p9 d9)) (And.intro (HF.out.2.2.2.2.2.2.2.1.keep (R2.out.keeps (by simp) (by simp) (by simp) (by simp) (.bool s9) (.slice m9 n9 c9) (.bool t9) (.slice o9 p9 d9))) (And.intro (HF.out.2.2.2.2.2.2.2.2.1.keep (R2.out.keeps (by simp) (by simp) (by simp) (by simp) (.bool s9) (.slice m9 n9 c9) (.bool t9) (.slice o9 p9 d9))) (HF.out.2.2.2.2.2.2.2.2.2.keep (R2.out.keeps (by simp) (by simp) (by simp) (by simp) (.bool s9) (.slice m9 n9 c9) (.bool t9) (.slice o9 p9 d9))))))))))))
        replace R0 := hide (R0.out.other4 (C := (w.heap.size + 1 + 1 + 1 + 1 + 1)) (by have hx := LTS.out; omega) (.bool s9) (.slice m9 n9 c9) (.bool t9) (.slice o9 p9 d9))
        replace R1 := hide (R1.out.other4 (C := (w.heap.size + 1 + 1 + 1 + 1 + 1)) (by have hx := LTS.out; omega) (.bool s9) (.slice m9 n9 c9) (.bool t9) (.slice o9 p9 d9))
        replace R2 := hide (R2.out.put (.bool s9) (.slice m9 n9 c9) (.bool t9) (.slice o9 p9 d9))
        refine hK _ _ (fun _ => HF'.out) ?_
        clear hK K HF hc0 hf0 hc1 hf1 hc2 hf2 hc3 hf3
        have HF := hide HF'.out
        clear HF'
        generalize ((((ws1.setCell ⟨(w.heap.size + 1 + 1 + 1 + 1 + 1), 0, none⟩ (.bool s9)).setCell ⟨(w.heap.size + 1 + 1 + 1 + 1 + 1), 1, none⟩ (.slice m9 n9 c9)).setCell ⟨(w.heap.size + 1 + 1 + 1 + 1 + 1), 2, none⟩ (.bool t9)).setCell ⟨(w.heap.size + 1 + 1 + 1 + 1 + 1), 3, none⟩ (.slice o9 p9 d9)) = ws2 at *
        refine Calm.take (i := 21) (v := ?_) (a' := ?_) (l' := #[true, true, true, true, true, true, true, true, true, true, true, true, true, true, true, true, true, true, true, true, true, true]) (d := some 9) rfl (by kernel_rfl) (by kernel_rfl) (by kernel_rfl) (by kernel_rfl) (fun _ _ _ h => h) HF.out rfl ?_ rfl rfl ?_ ?_
        rotate_left
        · intro w' hF; clear hF; go_simp; try rfl
        rotate_left
        · simp only [Act.put]; exact rfl
        refine Calm.done (by kernel_rfl) ?_
        replace HB := hide HF.out.1
        replace P0 := hide HF.out.2.1
        replace P1 := hide HF.out.2.2.1
        replace P2 := hide HF.out.2.2.2.1
        replace V0 := hide HF.out.2.2.2.2.1
        replace V1 := hide HF.out.2.2.2.2.2.1
        replace V2 := hide HF.out.2.2.2.2.2.2.1
        replace I0 := hide HF.out.2.2.2.2.2.2.2.1
        replace I1 := hide HF.out.2.2.2.2.2.2.2.2.1
        replace I2 := hide HF.out.2.2.2.2.2.2.2.2.2
        clear HF
        refine (by assumption : ∀ (a : Act) (w : World), Code.wp Try.prog Code.ret _ a w → _) _ _ ?_
        refine wp_ret ?_
        refine ret_three rfl (w.heap.size + 1 + 1 + 1) (w.heap.size + 1 + 1 + 1 + 1) (w.heap.size + 1 + 1 + 1 + 1 + 1) _ _ _ _ _ _ _ _ _ _ _ _ (!r) (by kernel_rfl) (by kernel_rfl) (by kernel_rfl) (by kernel_rfl) R0.out R1.out R2.out rfl ?_
        exact ⟨⟨_, _, _, x, y, z, (!r), rfl, I0.out, I1.out, I2.out, Z0.out, Z1.out, Z2.out⟩, HB.out⟩
end Go.Proofs.Ytpbfbjipdacbkaa
