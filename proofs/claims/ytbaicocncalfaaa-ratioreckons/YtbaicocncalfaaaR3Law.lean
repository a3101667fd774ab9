/- swagelaw03's is, numbers, rat. -/
import Derived.Test.YtbaicocncalfaaaR3b
import Derived.Test.YtbaicocncalfaaaRText
import Derived.Test.YtbaicocncalfaaaR2Text
import Derived.Test.YtbaicocncalfaaaR2Read
import Derived.Test.YtbaicocncalfaaaRBox
import Derived.Deep.Cut
namespace Go.Proofs.Ytbaicocncalfaaa
open Go.RowKit

theorem SzI.d6 {k : Nat} {z : Int} (h : SzI k z) (hk : 2 * k ≤ 1000000) : (D.lim z.natAbs).length ≤ 1000000 := by
  have h1 : (D.lim z.natAbs).length ≤ 2 * k := by
    refine D.lim_length_le ?_
    rw [Nat.pow_mul]
    exact h
  omega
theorem Try.infoI3 : (Try.prog.info? 28).map (·.size) = some 2 := by kernel_rfl

set_option maxRecDepth 100000 in
set_option maxHeartbeats 4000000 in
theorem is3_yes (v1 v2 : Value) (x : Rat) (w : World) (h1 : RatAt w v1 x) (h2 : RQ w v2 x) (hx : SzR 400000 x) :
    Calls Try.prog 10 #[v1, v2] w fun e w' => e = .returned (.bool true) ∧ Below w.heap.size w w' := by
  have HX := hide hx
  clear hx
  obtain ⟨s1, m1, n1, c1, t1, o1, p1, d1, rfl, i1⟩ := h1.cells
  have I1 := hide i1
  clear h1 i1
  obtain ⟨s2, m2, n2, c2, t2, o2, p2, d2, rfl, i2⟩ := h2.cells
  have I2 := hide i2
  clear h2 i2
  have P0 := Box4.new w (.bool s1) (.slice m1 n1 c1) (.bool t1) (.slice o1 p1 d1)
  replace P0 := P0.step (below_alloc _ (.cells #[.bool s2, .slice m2 n2 c2, .bool t2, .slice o2 p2 d2] 41))
  replace P0 := hide P0
  have P1 := BoxQ.new (w.alloc (.cells #[.bool s1, .slice m1 n1 c1, .bool t1, .slice o1 p1 d1] 34)) (.bool s2) (.slice m2 n2 c2) (.bool t2) (.slice o2 p2 d2)
  simp only [World.size_alloc] at P1
  replace P1 := hide P1
  have HB := below_alloc w (.cells #[.bool s1, .slice m1 n1 c1, .bool t1, .slice o1 p1 d1] 34)
  replace HB := HB.trans ((below_alloc _ (.cells #[.bool s2, .slice m2 n2 c2, .bool t2, .slice o2 p2 d2] 41)).mono (by simp only [World.size_alloc]; omega))
  replace I1 := hide (I1.out.below HB)
  replace I2 := hide (I2.out.below HB)
  replace HB := hide HB
  go_enter Try.func10, Try.ntmps10
  go_wp2_with fail
  generalize ((w.alloc (.cells #[.bool s1, .slice m1 n1 c1, .bool t1, .slice o1 p1 d1] 34)).alloc (.cells #[.bool s2, .slice m2 n2 c2, .bool t2, .slice o2 p2 d2] 41)) = w0 at *
  have LTS : Hid True := hide trivial
  refine wp_calm (fun w' => Below w.heap.size w w' ∧ Box4 w' w.heap.size (.bool s1) (.slice m1 n1 c1) (.bool t1) (.slice o1 p1 d1) ∧ BoxQ w' (w.heap.size + 1) (.bool s2) (.slice m2 n2 c2) (.bool t2) (.slice o2 p2 d2) ∧ RatAt w' (.agg #[.bool s1, .slice m1 n1 c1, .bool t1, .slice o1 p1 d1]) x ∧ RQ w' (.agg #[.bool s2, .slice m2 n2 c2, .bool t2, .slice o2 p2 d2]) x) (fun _ => true) 17 #[false, false, false, false, false, false, false, false, false, false, false, false, false, false, false, false, false] (by kernel_rfl) rfl rfl ?_
  have HF := hide (And.intro (HB.out.drew) (And.intro (P0.out.drew) (And.intro (P1.out.drew) (And.intro (I1.out.drew) (I2.out.drew)))))
  generalize w0.drew = w0d at *
  refine Calm.take (i := 0) (v := ?_) (a' := ?_) (l' := #[true, false, false, false, false, false, false, false, false, false, false, false, false, false, false, false, false]) (d := some 5) rfl (by kernel_rfl) (by kernel_rfl) (by kernel_rfl) (by kernel_rfl) (fun _ _ _ h => h) HF.out rfl ?_ rfl rfl ?_ ?_
  rotate_left
  · intro w' hF; have f10 := hF.2.1.cell0; have f11 := hF.2.1.cell1; have f12 := hF.2.1.cell2; have f13 := hF.2.1.cell3; have f20 := hF.2.2.1.cell0; have f21 := hF.2.2.1.cell1; have f22 := hF.2.2.1.cell2; have f23 := hF.2.2.1.cell3; clear hF; go_simp; try rfl
  rotate_left
  · simp only [Act.put]; exact rfl
  refine Calm.take (i := 3) (v := ?_) (a' := ?_) (l' := #[true, false, false, true, false, false, false, false, false, false, false, false, false, false, false, false, false]) (d := some 8) rfl (by kernel_rfl) (by kernel_rfl) (by kernel_rfl) (by kernel_rfl) (fun _ _ _ h => h) HF.out rfl ?_ rfl rfl ?_ ?_
  rotate_left
  · intro w' hF; clear hF; go_simp; try rfl
  rotate_left
  · simp only [Act.put]; exact rfl
  refine Calm.take (i := 4) (v := ?_) (a' := ?_) (l' := #[true, false, false, true, true, false, false, false, false, false, false, false, false, false, false, false, false]) (d := some 9) rfl (by kernel_rfl) (by kernel_rfl) (by kernel_rfl) (by kernel_rfl) (fun _ _ _ h => h) HF.out rfl ?_ rfl rfl ?_ ?_
  rotate_left
  · intro w' hF; have f10 := hF.2.1.cell0; have f11 := hF.2.1.cell1; have f12 := hF.2.1.cell2; have f13 := hF.2.1.cell3; have f20 := hF.2.2.1.cell0; have f21 := hF.2.2.1.cell1; have f22 := hF.2.2.1.cell2; have f23 := hF.2.2.1.cell3; clear hF; go_simp; try rfl
  rotate_left
  · simp only [Act.put]; exact rfl
  refine Calm.one (i := 1) (l' := #[true, true, false, true, true, false, false, false, false, false, false, false, false, false, false, false, false]) (by kernel_rfl) rfl rfl rfl fun K hK => ?_
  go_simp
  refine (num_any _ x _ HF.out.2.2.2.1).mono ?_
  rintro e u1 ⟨v, rfl, n, hb⟩
  have HF' := hide (And.intro (HF.out.1.trans ((hb).mono HF.out.1.size)) (And.intro (HF.out.2.1.step (hb)) (And.intro (HF.out.2.2.1.step (hb)) (And.intro (HF.out.2.2.2.1.below (hb)) (HF.out.2.2.2.2.below (hb))))))
  have T1 := hide (n)
  refine hK _ _ (fun _ => HF'.out) ?_
  clear hK K HF hb n
  have HF := hide HF'.out
  clear HF'
  refine Calm.one (i := 2) (l' := #[true, true, true, true, true, false, false, false, false, false, false, false, false, false, false, false, false]) (by kernel_rfl) rfl rfl rfl fun K hK => ?_
  go_simp
  refine (itext_any _ x.num _ T1.out (SzI.len HX.out.num (by decide))).mono ?_
  rintro e u2 ⟨rfl, hb⟩
  clear T1
  have HF' := hide (And.intro (HF.out.1.trans ((hb).mono HF.out.1.size)) (And.intro (HF.out.2.1.step (hb)) (And.intro (HF.out.2.2.1.step (hb)) (And.intro (HF.out.2.2.2.1.below (hb)) (HF.out.2.2.2.2.below (hb))))))
  refine hK _ _ (fun _ => HF'.out) ?_
  clear hK K HF hb
  have HF := hide HF'.out
  clear HF'
  refine Calm.one (i := 5) (l' := #[true, true, true, true, true, true, false, false, false, false, false, false, false, false, false, false, false]) (by kernel_rfl) rfl rfl rfl fun K hK => ?_
  go_simp
  refine (rtext2_any _ x.num _ HF.out.2.2.2.2.num (SzI.d6 HX.out.num (by decide))).mono ?_
  rintro e u3 ⟨rfl, hb⟩
  have HF' := hide (And.intro (HF.out.1.trans ((hb).mono HF.out.1.size)) (And.intro (HF.out.2.1.step (hb)) (And.intro (HF.out.2.2.1.step (hb)) (And.intro (HF.out.2.2.2.1.below (hb)) (HF.out.2.2.2.2.below (hb))))))
  refine hK _ _ (fun _ => HF'.out) ?_
  clear hK K HF hb
  have HF := hide HF'.out
  clear HF'
  refine Calm.take (i := 6) (v := ?_) (a' := ?_) (l' := #[true, true, true, true, true, true, true, false, false, false, false, false, false, false, false, false, false]) (d := some 11) rfl (by kernel_rfl) (by kernel_rfl) (by kernel_rfl) (by kernel_rfl) (fun _ _ _ h => h) HF.out rfl ?_ rfl rfl ?_ ?_
  rotate_left
  · intro w' hF; clear hF; go_simp; try rfl
  rotate_left
  · simp only [Act.put]; exact rfl
  refine Calm.take (i := 7) (v := ?_) (a' := ?_) (l' := #[true, true, true, true, true, true, true, true, false, false, false, false, false, false, false, false, false]) (d := some 12) rfl (by kernel_rfl) (by kernel_rfl) (by kernel_rfl) (by kernel_rfl) (fun _ _ _ h => h) HF.out rfl ?_ rfl rfl ?_ ?_
  rotate_left
  · intro w' hF; clear hF; go_simp; try rfl
  rotate_left
  · simp only [Act.put]; exact rfl
  refine Calm.take (i := 8) (v := ?_) (a' := ?_) (l' := #[true, true, true, true, true, true, true, true, true, false, false, false, false, false, false, false, false]) (d := some 13) rfl (by kernel_rfl) (by kernel_rfl) (by kernel_rfl) (by kernel_rfl) (fun _ _ _ h => h) HF.out (by kernel_rfl) ?_ rfl rfl ?_ ?_
  rotate_left
  · intro w' hF; have f10 := hF.2.1.cell0; have f11 := hF.2.1.cell1; have f12 := hF.2.1.cell2; have f13 := hF.2.1.cell3; have f20 := hF.2.2.1.cell0; have f21 := hF.2.2.1.cell1; have f22 := hF.2.2.1.cell2; have f23 := hF.2.2.1.cell3; clear hF; go_simp; try rfl
  rotate_left
  · simp only [Act.put]; exact rfl
  refine Calm.take (i := 11) (v := ?_) (a' := ?_) (l' := #[true, true, true, true, true, true, true, true, true, false, false, true, false, false, false, false, false]) (d := some 16) rfl (by kernel_rfl) (by kernel_rfl) (by kernel_rfl) (by kernel_rfl) (fun _ _ _ h => h) HF.out (by kernel_rfl) ?_ rfl rfl ?_ ?_
  rotate_left
  · intro w' hF; clear hF; go_simp; try rfl
  rotate_left
  · simp only [Act.put]; exact rfl
  refine Calm.take (i := 12) (v := ?_) (a' := ?_) (l' := #[true, true, true, true, true, true, true, true, true, false, false, true, true, false, false, false, false]) (d := some 17) rfl (by kernel_rfl) (by kernel_rfl) (by kernel_rfl) (by kernel_rfl) (fun _ _ _ h => h) HF.out (by kernel_rfl) ?_ rfl rfl ?_ ?_
  rotate_left
  · intro w' hF; have f10 := hF.2.1.cell0; have f11 := hF.2.1.cell1; have f12 := hF.2.1.cell2; have f13 := hF.2.1.cell3; have f20 := hF.2.2.1.cell0; have f21 := hF.2.2.1.cell1; have f22 := hF.2.2.1.cell2; have f23 := hF.2.2.1.cell3; clear hF; go_simp; try rfl
  rotate_left
  · simp only [Act.put]; exact rfl
  refine Calm.one (i := 9) (l' := #[true, true, true, true, true, true, true, true, true, true, false, true, true, false, false, false, false]) (by kernel_rfl) rfl (by kernel_rfl) rfl fun K hK => ?_
  go_simp
  refine (den_any _ x _ HF.out.2.2.2.1).mono ?_
  rintro e u4 ⟨v, rfl, n, hb⟩
  have HF' := hide (And.intro (HF.out.1.trans ((hb).mono HF.out.1.size)) (And.intro (HF.out.2.1.step (hb)) (And.intro (HF.out.2.2.1.step (hb)) (And.intro (HF.out.2.2.2.1.below (hb)) (HF.out.2.2.2.2.below (hb))))))
  have T2 := hide (n)
  refine hK _ _ (fun _ => HF'.out) ?_
  clear hK K HF hb n
  have HF := hide HF'.out
  clear HF'
  refine Calm.one (i := 10) (l' := #[true, true, true, true, true, true, true, true, true, true, true, true, true, false, false, false, false]) (by kernel_rfl) rfl (by kernel_rfl) rfl fun K hK => ?_
  go_simp
  refine (itext_any _ (x.den : Int) _ T2.out (SzI.len HX.out.den (by decide))).mono ?_
  rintro e u5 ⟨rfl, hb⟩
  clear T2
  have HF' := hide (And.intro (HF.out.1.trans ((hb).mono HF.out.1.size)) (And.intro (HF.out.2.1.step (hb)) (And.intro (HF.out.2.2.1.step (hb)) (And.intro (HF.out.2.2.2.1.below (hb)) (HF.out.2.2.2.2.below (hb))))))
  refine hK _ _ (fun _ => HF'.out) ?_
  clear hK K HF hb
  have HF := hide HF'.out
  clear HF'
  refine Calm.one (i := 13) (l' := #[true, true, true, true, true, true, true, true, true, true, true, true, true, true, false, false, false]) (by kernel_rfl) rfl (by kernel_rfl) rfl fun K hK => ?_
  go_simp
  refine (rtext2_any _ (x.den : Int) _ HF.out.2.2.2.2.den (SzI.d6 HX.out.den (by decide))).mono ?_
  rintro e u6 ⟨rfl, hb⟩
  have HF' := hide (And.intro (HF.out.1.trans ((hb).mono HF.out.1.size)) (And.intro (HF.out.2.1.step (hb)) (And.intro (HF.out.2.2.1.step (hb)) (And.intro (HF.out.2.2.2.1.below (hb)) (HF.out.2.2.2.2.below (hb))))))
  refine hK _ _ (fun _ => HF'.out) ?_
  clear hK K HF hb
  have HF := hide HF'.out
  clear HF'
  refine Calm.take (i := 14) (v := ?_) (a' := ?_) (l' := #[true, true, true, true, true, true, true, true, true, true, true, true, true, true, true, false, false]) (d := some 19) rfl (by kernel_rfl) (by kernel_rfl) (by kernel_rfl) (by kernel_rfl) (fun _ _ _ h => h) HF.out (by kernel_rfl) ?_ rfl rfl ?_ ?_
  rotate_left
  · intro w' hF; clear hF; go_simp; try rfl
  rotate_left
  · simp only [Act.put]; exact rfl
  refine Calm.take (i := 15) (v := ?_) (a' := ?_) (l' := #[true, true, true, true, true, true, true, true, true, true, true, true, true, true, true, true, false]) (d := some 20) rfl (by kernel_rfl) (by kernel_rfl) (by kernel_rfl) (by kernel_rfl) (fun _ _ _ h => h) HF.out rfl ?_ rfl rfl ?_ ?_
  rotate_left
  · intro w' hF; clear hF; go_simp; try rfl
  rotate_left
  · simp only [Act.put]; exact rfl
  refine Calm.take (i := 16) (v := ?_) (a' := ?_) (l' := #[true, true, true, true, true, true, true, true, true, true, true, true, true, true, true, true, true]) (d := some 4) rfl (by kernel_rfl) (by kernel_rfl) (by kernel_rfl) (by kernel_rfl) (fun _ _ _ h => h) HF.out rfl ?_ rfl rfl ?_ ?_
  rotate_left
  · intro w' hF; clear hF; go_simp; try rfl
  rotate_left
  · simp only [Act.put]; exact rfl
  refine Calm.done (by kernel_rfl) ?_
  replace HB := hide HF.out.1
  replace P0 := hide HF.out.2.1
  replace P1 := hide HF.out.2.2.1
  replace I1 := hide HF.out.2.2.2.1
  replace I2 := hide HF.out.2.2.2.2
  clear HF
  go_wp2
  go_ret
  exact ⟨rfl, HB.out⟩

theorem ret_nums {fn : Func} {R : Ending → World → Prop} {a : Act} {w : World} {p0 p1 p2 p3 k : Tmp} (h : fn.results = #[.cell p0 28, .cell p1 28, .cell p2 30, .cell p3 30, .tmp k]) (g0 g1 g2 g3 : Nat) (x00 x01 x10 x11 x20 x21 x30 x31 : Value) (b : Bool)
    (hp0 : a.tmps.getD p0 undef = .pointer (some ⟨g0, 0, none⟩)) (hg0 : Box w g0 x00 x01) (hp1 : a.tmps.getD p1 undef = .pointer (some ⟨g1, 0, none⟩)) (hg1 : Box w g1 x10 x11) (hp2 : a.tmps.getD p2 undef = .pointer (some ⟨g2, 0, none⟩)) (hg2 : BoxR w g2 x20 x21) (hp3 : a.tmps.getD p3 undef = .pointer (some ⟨g3, 0, none⟩)) (hg3 : BoxR w g3 x30 x31) (hk : a.tmps.getD k undef = .bool b) (hd : a.defers = []) (hR : R (.returned (.tuple #[.agg #[x00, x01], .agg #[x10, x11], .agg #[x20, x21], .agg #[x30, x31], .bool b])) w) : bodyPost Try.prog fn R .ret a w := by
  refine bodyPost_ret ?_ hd hR
  have hp0' : a.tmps[p0]?.getD undef = .pointer (some ⟨g0, 0, none⟩) := by simpa using hp0
  have hp1' : a.tmps[p1]?.getD undef = .pointer (some ⟨g1, 0, none⟩) := by simpa using hp1
  have hp2' : a.tmps[p2]?.getD undef = .pointer (some ⟨g2, 0, none⟩) := by simpa using hp2
  have hp3' : a.tmps[p3]?.getD undef = .pointer (some ⟨g3, 0, none⟩) := by simpa using hp3
  have hk' : a.tmps[k]?.getD undef = .bool b := by simpa using hk
  simp [results, h, hp0', hp1', hp2', hp3', hk', asAddr, run_loadVar_row w g0 28 28 #[x00, x01] (0, 0) _ hg0 Try.underlying28 rfl Try.infoI3, run_loadVar_row w g1 28 28 #[x10, x11] (0, 0) _ hg1 Try.underlying28 rfl Try.infoI3, run_loadVar_row w g2 30 30 #[x20, x21] (0, 0) _ hg2 Try.underlying30 rfl Try.infoRef, run_loadVar_row w g3 30 30 #[x30, x31] (0, 0) _ hg3 Try.underlying30 rfl Try.infoRef]

/-- two numbers of the program, two of the document: the same, if it is said so -/
def Nums3 (e : Ending) (w : World) : Prop := ∃ v1 v2 u1 u2 z1 z2 z3 z4 ok, e = .returned (.tuple #[v1, v2, u1, u2, .bool ok]) ∧ IntAt w v1 z1 ∧ IntAt w v2 z2 ∧ RInt w u1 z3 ∧ RInt w u2 z4 ∧ (ok = true → z1 = z3 ∧ z2 = z4 ∧ SzI 65536 z3 ∧ SzI 65536 z4)

set_option maxRecDepth 100000 in
set_option maxHeartbeats 8000000 in
theorem numbers_any (a b : ByteArray) (w : World) (la : a.size ≤ 300) (lb : b.size ≤ 300) :
    Calls Try.prog 8 #[.agg #[.string a, .string b]] w fun e w' => Nums3 e w' ∧ Below w.heap.size w w' := by
  have LA := hide la
  have LB := hide lb
  clear la lb
  have P0 := BoxF.new w (.string a) (.string b)
  replace P0 := P0.step (below_alloc _ (.cells #[.bool false, .slice none 0 0] 28))
  replace P0 := P0.step (below_alloc _ (.cells #[.bool false, .slice none 0 0] 28))
  replace P0 := P0.step (below_alloc _ (.cells #[.bool false, .slice none 0 0] 30))
  replace P0 := P0.step (below_alloc _ (.cells #[.bool false, .slice none 0 0] 30))
  replace P0 := hide P0
  have P1 := Box.new (w.alloc (.cells #[.string a, .string b] 23)) (.bool false) (.slice none 0 0)
  simp only [World.size_alloc] at P1
  replace P1 := P1.step (below_alloc _ (.cells #[.bool false, .slice none 0 0] 28))
  replace P1 := P1.step (below_alloc _ (.cells #[.bool false, .slice none 0 0] 30))
  replace P1 := P1.step (below_alloc _ (.cells #[.bool false, .slice none 0 0] 30))
  replace P1 := hide P1
  have P2 := Box.new ((w.alloc (.cells #[.string a, .string b] 23)).alloc (.cells #[.bool false, .slice none 0 0] 28)) (.bool false) (.slice none 0 0)
  simp only [World.size_alloc] at P2
  replace P2 := P2.step (below_alloc _ (.cells #[.bool false, .slice none 0 0] 30))
  replace P2 := P2.step (below_alloc _ (.cells #[.bool false, .slice none 0 0] 30))
  replace P2 := hide P2
  have P3 := BoxR.new (((w.alloc (.cells #[.string a, .string b] 23)).alloc (.cells #[.bool false, .slice none 0 0] 28)).alloc (.cells #[.bool false, .slice none 0 0] 28)) (.bool false) (.slice none 0 0)
  simp only [World.size_alloc] at P3
  replace P3 := P3.step (below_alloc _ (.cells #[.bool false, .slice none 0 0] 30))
  replace P3 := hide P3
  have P4 := BoxR.new ((((w.alloc (.cells #[.string a, .string b] 23)).alloc (.cells #[.bool false, .slice none 0 0] 28)).alloc (.cells #[.bool false, .slice none 0 0] 28)).alloc (.cells #[.bool false, .slice none 0 0] 30)) (.bool false) (.slice none 0 0)
  simp only [World.size_alloc] at P4
  replace P4 := hide P4
  have HB := below_alloc w (.cells #[.string a, .string b] 23)
  replace HB := HB.trans ((below_alloc _ (.cells #[.bool false, .slice none 0 0] 28)).mono (by simp only [World.size_alloc]; omega))
  replace HB := HB.trans ((below_alloc _ (.cells #[.bool false, .slice none 0 0] 28)).mono (by simp only [World.size_alloc]; omega))
  replace HB := HB.trans ((below_alloc _ (.cells #[.bool false, .slice none 0 0] 30)).mono (by simp only [World.size_alloc]; omega))
  replace HB := HB.trans ((below_alloc _ (.cells #[.bool false, .slice none 0 0] 30)).mono (by simp only [World.size_alloc]; omega))
  replace HB := hide HB
  go_enter Try.func8, Try.ntmps8
  go_wp2_with fail
  generalize (((((w.alloc (.cells #[.string a, .string b] 23)).alloc (.cells #[.bool false, .slice none 0 0] 28)).alloc (.cells #[.bool false, .slice none 0 0] 28)).alloc (.cells #[.bool false, .slice none 0 0] 30)).alloc (.cells #[.bool false, .slice none 0 0] 30)) = w0 at *
  refine (rread2_any a _ (Nat.le_trans LA.out (by decide))).mono ?_
  rintro e u1 ⟨v, z1, q1, rfl, kx1, hr, hb⟩
  obtain ⟨s1, m1, n1, c1, rfl, ky1⟩ := kx1.cells
  have R1 := hide hr
  replace P0 := hide (P0.out.step (hb))
  replace P1 := hide (P1.out.step (hb))
  replace P2 := hide (P2.out.step (hb))
  replace P3 := hide (P3.out.step (hb))
  replace P4 := hide (P4.out.step (hb))
  replace HB := hide (HB.out.trans ((hb).mono HB.out.size))
  have I1 := hide (ky1)
  clear hb kx1 ky1 hr
  have hP00 := P0.out.cell0
  have hP01 := P0.out.cell1
  have lt0 := P0.out.lt
  go_wp2_with fail
  clear lt0
  clear hP00 hP01
  have hp1 := P4.out.lt
  have al := below_alloc u1 (.cells #[.bool s1, .slice m1 n1 c1] 30)
  replace P0 := hide (P0.out.step (al))
  replace P1 := hide (P1.out.step (al))
  replace P2 := hide (P2.out.step (al))
  replace P3 := hide (P3.out.step (al))
  replace P4 := hide (P4.out.step (al))
  replace HB := hide (HB.out.trans ((al).mono HB.out.size))
  replace I1 := hide (I1.out.below (al))
  have V1 := hide (BoxR.new u1 (.bool s1) (.slice m1 n1 c1))
  clear al
  generalize u1.alloc (.cells #[.bool s1, .slice m1 n1 c1] 30) = u1a at *
  generalize u1.heap.size = g1 at *
  refine (rread2_any b _ (Nat.le_trans LB.out (by decide))).mono ?_
  rintro e u2 ⟨v, z2, q2, rfl, kx2, hr, hb⟩
  obtain ⟨s2, m2, n2, c2, rfl, ky2⟩ := kx2.cells
  have R2 := hide hr
  replace P0 := hide (P0.out.step (hb))
  replace P1 := hide (P1.out.step (hb))
  replace P2 := hide (P2.out.step (hb))
  replace P3 := hide (P3.out.step (hb))
  replace P4 := hide (P4.out.step (hb))
  replace HB := hide (HB.out.trans ((hb).mono HB.out.size))
  replace I1 := hide (I1.out.below (hb))
  replace V1 := hide (V1.out.step (hb))
  have I2 := hide (ky2)
  clear hb kx2 ky2 hr
  have HP1 := hide hp1
  clear hp1
  go_upto_region 3 with fail
  have hp2 := P4.out.lt
  have al := below_alloc u2 (.cells #[.bool s2, .slice m2 n2 c2] 30)
  replace P0 := hide (P0.out.step (al))
  replace P1 := hide (P1.out.step (al))
  replace P2 := hide (P2.out.step (al))
  replace P3 := hide (P3.out.step (al))
  replace P4 := hide (P4.out.step (al))
  replace HB := hide (HB.out.trans ((al).mono HB.out.size))
  replace I1 := hide (I1.out.below (al))
  replace V1 := hide (V1.out.step (al))
  replace I2 := hide (I2.out.below (al))
  have V2 := hide (BoxR.new u2 (.bool s2) (.slice m2 n2 c2))
  clear al
  generalize u2.alloc (.cells #[.bool s2, .slice m2 n2 c2] 30) = u2a at *
  generalize u2.heap.size = g2 at *
  have LTS := hide (And.intro HP1.out hp2)
  clear hp2 HP1
  rcases R1.out with ⟨a1, b1, k1, k2, k3, rfl⟩ | ⟨k1, rfl⟩
  · clear R1 R2 k1 k2 k3
    have h0 : ¬ ((b1 : Nat) : Int) < 0 := by omega
    have h1 : 0 ≤ ((b1 : Nat) : Int) := by omega
    go_upto_region 4 with fail
    clear h0 h1
    replace P1 := hide P1.out.drew
    replace P2 := hide P2.out.drew
    replace P3 := hide P3.out.drew
    replace P4 := hide P4.out.drew
    replace I1 := hide I1.out.drew
    replace I2 := hide I2.out.drew
    refine wp_calm (fun w' => Below w.heap.size w w' ∧ BoxR w' g1 (.bool s1) (.slice m1 n1 c1) ∧ BoxR w' g2 (.bool s2) (.slice m2 n2 c2)) (fun _ => true) 9 #[false, false, false, false, false, false, false, false, false] (by kernel_rfl) rfl rfl ?_
    have HF := hide (And.intro (HB.out.drew) (And.intro (V1.out.drew) (V2.out.drew)))
    generalize u2a.drew = u2ad at *
    refine Calm.take (i := 0) (v := ?_) (a' := ?_) (l' := #[true, false, false, false, false, false, false, false, false]) (d := some 33) rfl (by kernel_rfl) (by kernel_rfl) (by kernel_rfl) (by kernel_rfl) (fun _ _ _ h => h) HF.out rfl ?_ rfl rfl ?_ ?_
    rotate_left
    · intro w' hF; clear hF; go_simp; try rfl
    rotate_left
    · simp only [Act.put]; exact rfl
    refine Calm.take (i := 1) (v := ?_) (a' := ?_) (l' := #[true, true, false, false, false, false, false, false, false]) (d := some 34) rfl (by kernel_rfl) (by kernel_rfl) (by kernel_rfl) (by kernel_rfl) (fun _ _ _ h => h) HF.out rfl ?_ rfl rfl ?_ ?_
    rotate_left
    · intro w' hF; clear hF; go_simp; try rfl
    rotate_left
    · simp only [Act.put]; exact rfl
    refine Calm.take (i := 2) (v := ?_) (a' := ?_) (l' := #[true, true, true, false, false, false, false, false, false]) (d := some 35) rfl (by kernel_rfl) (by kernel_rfl) (by kernel_rfl) (by kernel_rfl) (fun _ _ _ h => h) HF.out rfl ?_ rfl rfl ?_ ?_
    rotate_left
    · intro w' hF; have f10 := hF.2.1.cell0; have f11 := hF.2.1.cell1; have f20 := hF.2.2.cell0; have f21 := hF.2.2.cell1; clear hF; go_simp; try rfl
    rotate_left
    · simp only [Act.put]; exact rfl
    refine Calm.take (i := 3) (v := ?_) (a' := ?_) (l' := #[true, true, true, true, false, false, false, false, false]) (d := some 36) rfl (by kernel_rfl) (by kernel_rfl) (by kernel_rfl) (by kernel_rfl) (fun _ _ _ h => h) HF.out rfl ?_ rfl rfl ?_ ?_
    rotate_left
    · intro w' hF; have f10 := hF.2.1.cell0; have f11 := hF.2.1.cell1; have f20 := hF.2.2.cell0; have f21 := hF.2.2.cell1; clear hF; go_simp; try rfl
    rotate_left
    · simp only [Act.put]; exact rfl
    refine Calm.one (i := 4) (l' := #[true, true, true, true, true, false, false, false, false]) (by kernel_rfl) rfl rfl rfl fun K hK => ?_
    have hc0 := P1.out.cell0
    have hc1 := P1.out.cell1
    have hf0 := P1.out.free 0
    have hf1 := P1.out.free 1
    go_simp
    have HF' := hide (And.intro (below_put HF.out.1 (show w.heap.size ≤ (w.heap.size + 1) by have hx := LTS.out; omega) (.bool false) (.slice none 0 0)) (And.intro (HF.out.2.1.other (C := (w.heap.size + 1)) (by have hx := LTS.out; omega) (.bool false) (.slice none 0 0)) (HF.out.2.2.other (C := (w.heap.size + 1)) (by have hx := LTS.out; omega) (.bool false) (.slice none 0 0))))
    replace P2 := hide (P2.out.other (C := (w.heap.size + 1)) (by have hx := LTS.out; omega) (.bool false) (.slice none 0 0))
    replace P3 := hide (P3.out.other (C := (w.heap.size + 1)) (by have hx := LTS.out; omega) (.bool false) (.slice none 0 0))
    replace P4 := hide (P4.out.other (C := (w.heap.size + 1)) (by have hx := LTS.out; omega) (.bool false) (.slice none 0 0))
    replace I1 := hide (I1.out.keep (P1.out.keeps (by simp) (by simp) (.bool false) (.slice none 0 0)))
    replace I2 := hide (I2.out.keep (P1.out.keeps (by simp) (by simp) (.bool false) (.slice none 0 0)))
    replace P1 := hide (P1.out.put (.bool false) (.slice none 0 0))
    refine hK _ _ (fun _ => HF'.out) ?_
    clear hK K HF hc0 hf0 hc1 hf1
    have HF := hide HF'.out
    clear HF'
    generalize ((u2ad.setCell ⟨(w.heap.size + 1), 0, none⟩ (.bool false)).setCell ⟨(w.heap.size + 1), 1, none⟩ (.slice none 0 0)) = x1 at *
    refine Calm.one (i := 5) (l' := #[true, true, true, true, true, true, false, false, false]) (by kernel_rfl) rfl rfl rfl fun K hK => ?_
    have hc0 := P2.out.cell0
    have hc1 := P2.out.cell1
    have hf0 := P2.out.free 0
    have hf1 := P2.out.free 1
    go_simp
    have HF' := hide (And.intro (below_put HF.out.1 (show w.heap.size ≤ (w.heap.size + 1 + 1) by have hx := LTS.out; omega) (.bool false) (.slice none 0 0)) (And.intro (HF.out.2.1.other (C := (w.heap.size + 1 + 1)) (by have hx := LTS.out; omega) (.bool false) (.slice none 0 0)) (HF.out.2.2.other (C := (w.heap.size + 1 + 1)) (by have hx := LTS.out; omega) (.bool false) (.slice none 0 0))))
    replace P1 := hide (P1.out.other (C := (w.heap.size + 1 + 1)) (by have hx := LTS.out; omega) (.bool false) (.slice none 0 0))
    replace P3 := hide (P3.out.other (C := (w.heap.size + 1 + 1)) (by have hx := LTS.out; omega) (.bool false) (.slice none 0 0))
    replace P4 := hide (P4.out.other (C := (w.heap.size + 1 + 1)) (by have hx := LTS.out; omega) (.bool false) (.slice none 0 0))
    replace I1 := hide (I1.out.keep (P2.out.keeps (by simp) (by simp) (.bool false) (.slice none 0 0)))
    replace I2 := hide (I2.out.keep (P2.out.keeps (by simp) (by simp) (.bool false) (.slice none 0 0)))
    replace P2 := hide (P2.out.put (.bool false) (.slice none 0 0))
    refine hK _ _ (fun _ => HF'.out) ?_
    clear hK K HF hc0 hf0 hc1 hf1
    have HF := hide HF'.out
    clear HF'
    generalize ((x1.setCell ⟨(w.heap.size + 1 + 1), 0, none⟩ (.bool false)).setCell ⟨(w.heap.size + 1 + 1), 1, none⟩ (.slice none 0 0)) = x2 at *
    refine Calm.one (i := 6) (l' := #[true, true, true, true, true, true, true, false, false]) (by kernel_rfl) rfl rfl rfl fun K hK => ?_
    have hc0 := P3.out.cell0
    have hc1 := P3.out.cell1
    have hf0 := P3.out.free 0
    have hf1 := P3.out.free 1
    go_simp
    have HF' := hide (And.intro (below_put HF.out.1 (show w.heap.size ≤ (w.heap.size + 1 + 1 + 1) by have hx := LTS.out; omega) (.bool s1) (.slice m1 n1 c1)) (And.intro (HF.out.2.1.other (C := (w.heap.size + 1 + 1 + 1)) (by have hx := LTS.out; omega) (.bool s1) (.slice m1 n1 c1)) (HF.out.2.2.other (C := (w.heap.size + 1 + 1 + 1)) (by have hx := LTS.out; omega) (.bool s1) (.slice m1 n1 c1))))
    replace P1 := hide (P1.out.other (C := (w.heap.size + 1 + 1 + 1)) (by have hx := LTS.out; omega) (.bool s1) (.slice m1 n1 c1))
    replace P2 := hide (P2.out.other (C := (w.heap.size + 1 + 1 + 1)) (by have hx := LTS.out; omega) (.bool s1) (.slice m1 n1 c1))
    replace P4 := hide (P4.out.other (C := (w.heap.size + 1 + 1 + 1)) (by have hx := LTS.out; omega) (.bool s1) (.slice m1 n1 c1))
    replace I1 := hide (I1.out.keep (P3.out.keeps (by simp) (by simp) (.bool s1) (.slice m1 n1 c1)))
    replace I2 := hide (I2.out.keep (P3.out.keeps (by simp) (by simp) (.bool s1) (.slice m1 n1 c1)))
    replace P3 := hide (P3.out.put (.bool s1) (.slice m1 n1 c1))
    refine hK _ _ (fun _ => HF'.out) ?_
    clear hK K HF hc0 hf0 hc1 hf1
    have HF := hide HF'.out
    clear HF'
    generalize ((x2.setCell ⟨(w.heap.size + 1 + 1 + 1), 0, none⟩ (.bool s1)).setCell ⟨(w.heap.size + 1 + 1 + 1), 1, none⟩ (.slice m1 n1 c1)) = x3 at *
    refine Calm.one (i := 7) (l' := #[true, true, true, true, true, true, true, true, false]) (by kernel_rfl) rfl rfl rfl fun K hK => ?_
    have hc0 := P4.out.cell0
    have hc1 := P4.out.cell1
    have hf0 := P4.out.free 0
    have hf1 := P4.out.free 1
    go_simp
    have HF' := hide (And.intro (below_put HF.out.1 (show w.heap.size ≤ (w.heap.size + 1 + 1 + 1 + 1) by have hx := LTS.out; omega) (.bool s2) (.slice m2 n2 c2)) (And.intro (HF.out.2.1.other (C := (w.heap.size + 1 + 1 + 1 + 1)) (by have hx := LTS.out; omega) (.bool s2) (.slice m2 n2 c2)) (HF.out.2.2.other (C := (w.heap.size + 1 + 1 + 1 + 1)) (by have hx := LTS.out; omega) (.bool s2) (.slice m2 n2 c2))))
    replace P1 := hide (P1.out.other (C := (w.heap.size + 1 + 1 + 1 + 1)) (by have hx := LTS.out; omega) (.bool s2) (.slice m2 n2 c2))
    replace P2 := hide (P2.out.other (C := (w.heap.size + 1 + 1 + 1 + 1)) (by have hx := LTS.out; omega) (.bool s2) (.slice m2 n2 c2))
    replace P3 := hide (P3.out.other (C := (w.heap.size + 1 + 1 + 1 + 1)) (by have hx := LTS.out; omega) (.bool s2) (.slice m2 n2 c2))
    replace I1 := hide (I1.out.keep (P4.out.keeps (by simp) (by simp) (.bool s2) (.slice m2 n2 c2)))
    replace I2 := hide (I2.out.keep (P4.out.keeps (by simp) (by simp) (.bool s2) (.slice m2 n2 c2)))
    replace P4 := hide (P4.out.put (.bool s2) (.slice m2 n2 c2))
    refine hK _ _ (fun _ => HF'.out) ?_
    clear hK K HF hc0 hf0 hc1 hf1
    have HF := hide HF'.out
    clear HF'
    generalize ((x3.setCell ⟨(w.heap.size + 1 + 1 + 1 + 1), 0, none⟩ (.bool s2)).setCell ⟨(w.heap.size + 1 + 1 + 1 + 1), 1, none⟩ (.slice m2 n2 c2)) = x4 at *
    refine Calm.take (i := 8) (v := ?_) (a' := ?_) (l' := #[true, true, true, true, true, true, true, true, true]) (d := some 6) rfl (by kernel_rfl) (by kernel_rfl) (by kernel_rfl) (by kernel_rfl) (fun _ _ _ h => h) HF.out rfl ?_ rfl rfl ?_ ?_
    rotate_left
    · intro w' hF; clear hF; go_simp; try rfl
    rotate_left
    · simp only [Act.put]; exact rfl
    refine Calm.done (by kernel_rfl) ?_
    replace HB := hide HF.out.1
    replace V1 := hide HF.out.2.1
    replace V2 := hide HF.out.2.2
    clear HF
    clear P0
    go_wp2
    refine ret_nums rfl (w.heap.size + 1) (w.heap.size + 1 + 1) (w.heap.size + 1 + 1 + 1) (w.heap.size + 1 + 1 + 1 + 1) _ _ _ _ _ _ _ _ _ rfl P1.out rfl P2.out rfl P3.out rfl P4.out rfl rfl ?_
    exact ⟨⟨_, _, _, _, 0, 0, z1, z2, false, rfl, int_zero0 _, int_zero0 _, I1.out, I2.out, fun h => by cases h⟩, HB.out⟩
  · have K1 := hide k1
    clear R1 k1
    rcases R2.out with ⟨a2, b2, k1, k2, k3, rfl⟩ | ⟨k2, rfl⟩
    · clear R2 K1 k1 k2 k3
      have h0 : ¬ ((b2 : Nat) : Int) < 0 := by omega
      have h1 : 0 ≤ ((b2 : Nat) : Int) := by omega
      go_upto_region 4 with fail
      clear h0 h1
      replace P1 := hide P1.out.drew
      replace P2 := hide P2.out.drew
      replace P3 := hide P3.out.drew
      replace P4 := hide P4.out.drew
      replace I1 := hide I1.out.drew
      replace I2 := hide I2.out.drew
      refine wp_calm (fun w' => Below w.heap.size w w' ∧ BoxR w' g1 (.bool s1) (.slice m1 n1 c1) ∧ BoxR w' g2 (.bool s2) (.slice m2 n2 c2)) (fun _ => true) 9 #[false, false, false, false, false, false, false, false, false] (by kernel_rfl) rfl rfl ?_
      have HF := hide (And.intro (HB.out.drew) (And.intro (V1.out.drew) (V2.out.drew)))
      generalize u2a.drew = u2ad at *
      refine Calm.take (i := 0) (v := ?_) (a' := ?_) (l' := #[true, false, false, false, false, false, false, false, false]) (d := some 33) rfl (by kernel_rfl) (by kernel_rfl) (by kernel_rfl) (by kernel_rfl) (fun _ _ _ h => h) HF.out rfl ?_ rfl rfl ?_ ?_
      rotate_left
      · intro w' hF; clear hF; go_simp; try rfl
      rotate_left
      · simp only [Act.put]; exact rfl
      refine Calm.take (i := 1) (v := ?_) (a' := ?_) (l' := #[true, true, false, false, false, false, false, false, false]) (d := some 34) rfl (by kernel_rfl) (by kernel_rfl) (by kernel_rfl) (by kernel_rfl) (fun _ _ _ h => h) HF.out rfl ?_ rfl rfl ?_ ?_
      rotate_left
      · intro w' hF; clear hF; go_simp; try rfl
      rotate_left
      · simp only [Act.put]; exact rfl
      refine Calm.take (i := 2) (v := ?_) (a' := ?_) (l' := #[true, true, true, false, false, false, false, false, false]) (d := some 35) rfl (by kernel_rfl) (by kernel_rfl) (by kernel_rfl) (by kernel_rfl) (fun _ _ _ h => h) HF.out rfl ?_ rfl rfl ?_ ?_
      rotate_left
      · intro w' hF; have f10 := hF.2.1.cell0; have f11 := hF.2.1.cell1; have f20 := hF.2.2.cell0; have f21 := hF.2.2.cell1; clear hF; go_simp; try rfl
      rotate_left
      · simp only [Act.put]; exact rfl
      refine Calm.take (i := 3) (v := ?_) (a' := ?_) (l' := #[true, true, true, true, false, false, false, false, false]) (d := some 36) rfl (by kernel_rfl) (by kernel_rfl) (by kernel_rfl) (by kernel_rfl) (fun _ _ _ h => h) HF.out rfl ?_ rfl rfl ?_ ?_
      rotate_left
      · intro w' hF; have f10 := hF.2.1.cell0; have f11 := hF.2.1.cell1; have f20 := hF.2.2.cell0; have f21 := hF.2.2.cell1; clear hF; go_simp; try rfl
      rotate_left
      · simp only [Act.put]; exact rfl
      refine Calm.one (i := 4) (l' := #[true, true, true, true, true, false, false, false, false]) (by kernel_rfl) rfl rfl rfl fun K hK => ?_
      have hc0 := P1.out.cell0
      have hc1 := P1.out.cell1
      have hf0 := P1.out.free 0
      have hf1 := P1.out.free 1
      go_simp
      have HF' := hide (And.intro (below_put HF.out.1 (show w.heap.size ≤ (w.heap.size + 1) by have hx := LTS.out; omega) (.bool false) (.slice none 0 0)) (And.intro (HF.out.2.1.other (C := (w.heap.size + 1)) (by have hx := LTS.out; omega) (.bool false) (.slice none 0 0)) (HF.out.2.2.other (C := (w.heap.size + 1)) (by have hx := LTS.out; omega) (.bool false) (.slice none 0 0))))
      replace P2 := hide (P2.out.other (C := (w.heap.size + 1)) (by have hx := LTS.out; omega) (.bool false) (.slice none 0 0))
      replace P3 := hide (P3.out.other (C := (w.heap.size + 1)) (by have hx := LTS.out; omega) (.bool false) (.slice none 0 0))
      replace P4 := hide (P4.out.other (C := (w.heap.size + 1)) (by have hx := LTS.out; omega) (.bool false) (.slice none 0 0))
      replace I1 := hide (I1.out.keep (P1.out.keeps (by simp) (by simp) (.bool false) (.slice none 0 0)))
      replace I2 := hide (I2.out.keep (P1.out.keeps (by simp) (by simp) (.bool false) (.slice none 0 0)))
      replace P1 := hide (P1.out.put (.bool false) (.slice none 0 0))
      refine hK _ _ (fun _ => HF'.out) ?_
      clear hK K HF hc0 hf0 hc1 hf1
      have HF := hide HF'.out
      clear HF'
      generalize ((u2ad.setCell ⟨(w.heap.size + 1), 0, none⟩ (.bool false)).setCell ⟨(w.heap.size + 1), 1, none⟩ (.slice none 0 0)) = x1 at *
      refine Calm.one (i := 5) (l' := #[true, true, true, true, true, true, false, false, false]) (by kernel_rfl) rfl rfl rfl fun K hK => ?_
      have hc0 := P2.out.cell0
      have hc1 := P2.out.cell1
      have hf0 := P2.out.free 0
      have hf1 := P2.out.free 1
      go_simp
      have HF' := hide (And.intro (below_put HF.out.1 (show w.heap.size ≤ (w.heap.size + 1 + 1) by have hx := LTS.out; omega) (.bool false) (.slice none 0 0)) (And.intro (HF.out.2.1.other (C := (w.heap.size + 1 + 1)) (by have hx := LTS.out; omega) (.bool false) (.slice none 0 0)) (HF.out.2.2.other (C := (w.heap.size + 1 + 1)) (by have hx := LTS.out; omega) (.bool false) (.slice none 0 0))))
      replace P1 := hide (P1.out.other (C := (w.heap.size + 1 + 1)) (by have hx := LTS.out; omega) (.bool false) (.slice none 0 0))
      replace P3 := hide (P3.out.other (C := (w.heap.size + 1 + 1)) (by have hx := LTS.out; omega) (.bool false) (.slice none 0 0))
      replace P4 := hide (P4.out.other (C := (w.heap.size + 1 + 1)) (by have hx := LTS.out; omega) (.bool false) (.slice none 0 0))
      replace I1 := hide (I1.out.keep (P2.out.keeps (by simp) (by simp) (.bool false) (.slice none 0 0)))
      replace I2 := hide (I2.out.keep (P2.out.keeps (by simp) (by simp) (.bool false) (.slice none 0 0)))
      replace P2 := hide (P2.out.put (.bool false) (.slice none 0 0))
      refine hK _ _ (fun _ => HF'.out) ?_
      clear hK K HF hc0 hf0 hc1 hf1
      have HF := hide HF'.out
      clear HF'
      generalize ((x1.setCell ⟨(w.heap.size + 1 + 1), 0, none⟩ (.bool false)).setCell ⟨(w.heap.size + 1 + 1), 1, none⟩ (.slice none 0 0)) = x2 at *
      refine Calm.one (i := 6) (l' := #[true, true, true, true, true, true, true, false, false]) (by kernel_rfl) rfl rfl rfl fun K hK => ?_
      have hc0 := P3.out.cell0
      have hc1 := P3.out.cell1
      have hf0 := P3.out.free 0
      have hf1 := P3.out.free 1
      go_simp
      have HF' := hide (And.intro (below_put HF.out.1 (show w.heap.size ≤ (w.heap.size + 1 + 1 + 1) by have hx := LTS.out; omega) (.bool s1) (.slice m1 n1 c1)) (And.intro (HF.out.2.1.other (C := (w.heap.size + 1 + 1 + 1)) (by have hx := LTS.out; omega) (.bool s1) (.slice m1 n1 c1)) (HF.out.2.2.other (C := (w.heap.size + 1 + 1 + 1)) (by have hx := LTS.out; omega) (.bool s1) (.slice m1 n1 c1))))
      replace P1 := hide (P1.out.other (C := (w.heap.size + 1 + 1 + 1)) (by have hx := LTS.out; omega) (.bool s1) (.slice m1 n1 c1))
      replace P2 := hide (P2.out.other (C := (w.heap.size + 1 + 1 + 1)) (by have hx := LTS.out; omega) (.bool s1) (.slice m1 n1 c1))
      replace P4 := hide (P4.out.other (C := (w.heap.size + 1 + 1 + 1)) (by have hx := LTS.out; omega) (.bool s1) (.slice m1 n1 c1))
      replace I1 := hide (I1.out.keep (P3.out.keeps (by simp) (by simp) (.bool s1) (.slice m1 n1 c1)))
      replace I2 := hide (I2.out.keep (P3.out.keeps (by simp) (by simp) (.bool s1) (.slice m1 n1 c1)))
      replace P3 := hide (P3.out.put (.bool s1) (.slice m1 n1 c1))
      refine hK _ _ (fun _ => HF'.out) ?_
      clear hK K HF hc0 hf0 hc1 hf1
      have HF := hide HF'.out
      clear HF'
      generalize ((x2.setCell ⟨(w.heap.size + 1 + 1 + 1), 0, none⟩ (.bool s1)).setCell ⟨(w.heap.size + 1 + 1 + 1), 1, none⟩ (.slice m1 n1 c1)) = x3 at *
      refine Calm.one (i := 7) (l' := #[true, true, true, true, true, true, true, true, false]) (by kernel_rfl) rfl rfl rfl fun K hK => ?_
      have hc0 := P4.out.cell0
      have hc1 := P4.out.cell1
      have hf0 := P4.out.free 0
      have hf1 := P4.out.free 1
      go_simp
      have HF' := hide (And.intro (below_put HF.out.1 (show w.heap.size ≤ (w.heap.size + 1 + 1 + 1 + 1) by have hx := LTS.out; omega) (.bool s2) (.slice m2 n2 c2)) (And.intro (HF.out.2.1.other (C := (w.heap.size + 1 + 1 + 1 + 1)) (by have hx := LTS.out; omega) (.bool s2) (.slice m2 n2 c2)) (HF.out.2.2.other (C := (w.heap.size + 1 + 1 + 1 + 1)) (by have hx := LTS.out; omega) (.bool s2) (.slice m2 n2 c2))))
      replace P1 := hide (P1.out.other (C := (w.heap.size + 1 + 1 + 1 + 1)) (by have hx := LTS.out; omega) (.bool s2) (.slice m2 n2 c2))
      replace P2 := hide (P2.out.other (C := (w.heap.size + 1 + 1 + 1 + 1)) (by have hx := LTS.out; omega) (.bool s2) (.slice m2 n2 c2))
      replace P3 := hide (P3.out.other (C := (w.heap.size + 1 + 1 + 1 + 1)) (by have hx := LTS.out; omega) (.bool s2) (.slice m2 n2 c2))
      replace I1 := hide (I1.out.keep (P4.out.keeps (by simp) (by simp) (.bool s2) (.slice m2 n2 c2)))
      replace I2 := hide (I2.out.keep (P4.out.keeps (by simp) (by simp) (.bool s2) (.slice m2 n2 c2)))
      replace P4 := hide (P4.out.put (.bool s2) (.slice m2 n2 c2))
      refine hK _ _ (fun _ => HF'.out) ?_
      clear hK K HF hc0 hf0 hc1 hf1
      have HF := hide HF'.out
      clear HF'
      generalize ((x3.setCell ⟨(w.heap.size + 1 + 1 + 1 + 1), 0, none⟩ (.bool s2)).setCell ⟨(w.heap.size + 1 + 1 + 1 + 1), 1, none⟩ (.slice m2 n2 c2)) = x4 at *
      refine Calm.take (i := 8) (v := ?_) (a' := ?_) (l' := #[true, true, true, true, true, true, true, true, true]) (d := some 6) rfl (by kernel_rfl) (by kernel_rfl) (by kernel_rfl) (by kernel_rfl) (fun _ _ _ h => h) HF.out rfl ?_ rfl rfl ?_ ?_
      rotate_left
      · intro w' hF; clear hF; go_simp; try rfl
      rotate_left
      · simp only [Act.put]; exact rfl
      refine Calm.done (by kernel_rfl) ?_
      replace HB := hide HF.out.1
      replace V1 := hide HF.out.2.1
      replace V2 := hide HF.out.2.2
      clear HF
      clear P0
      go_wp2
      refine ret_nums rfl (w.heap.size + 1) (w.heap.size + 1 + 1) (w.heap.size + 1 + 1 + 1) (w.heap.size + 1 + 1 + 1 + 1) _ _ _ _ _ _ _ _ _ rfl P1.out rfl P2.out rfl P3.out rfl P4.out rfl rfl ?_
      exact ⟨⟨_, _, _, _, 0, 0, z1, z2, false, rfl, int_zero0 _, int_zero0 _, I1.out, I2.out, fun h => by cases h⟩, HB.out⟩
    · have K2 := hide k2
      clear R2 k2
      have hP00 := P0.out.cell0
      have hP01 := P0.out.cell1
      go_wp2_with fail
      clear hP00 hP01
      refine (iread_any a _ (Nat.le_trans LA.out (by decide))).mono ?_
      rintro e u3 ⟨v, z3, e3, q3, rfl, kx3, hr, hb⟩
      obtain ⟨s3, m3, n3, c3, rfl, ky3⟩ := kx3.cells
      obtain ⟨rfl, rfl, rfl⟩ := hr.same K1.out
      replace P0 := hide (P0.out.step (hb))
      replace P1 := hide (P1.out.step (hb))
      replace P2 := hide (P2.out.step (hb))
      replace P3 := hide (P3.out.step (hb))
      replace P4 := hide (P4.out.step (hb))
      replace HB := hide (HB.out.trans ((hb).mono HB.out.size))
      replace I1 := hide (I1.out.below (hb))
      replace V1 := hide (V1.out.step (hb))
      replace I2 := hide (I2.out.below (hb))
      replace V2 := hide (V2.out.step (hb))
      have I3 := hide (ky3)
      clear hb kx3 ky3 hr
      have hP00 := P0.out.cell0
      have hP01 := P0.out.cell1
      have lt0 := P0.out.lt
      go_wp2_with fail
      clear lt0
      clear hP00 hP01
      have hp3 := P4.out.lt
      have V3 := Box.new u3 (.bool s3) (.slice m3 n3 c3)
      replace V3 := V3.step (below_alloc _ (.cells #[.int .i64 ((0 : Nat) : Int), .int .i64 ((0 : Nat) : Int)] 82))
      replace V3 := hide V3
      have S3 := BoxS.new (u3.alloc (.cells #[.bool s3, .slice m3 n3 c3] 28)) (.int .i64 ((0 : Nat) : Int)) (.int .i64 ((0 : Nat) : Int))
      simp only [World.size_alloc] at S3
      replace S3 := hide S3
      have al := below_alloc u3 (.cells #[.bool s3, .slice m3 n3 c3] 28)
      replace al := al.trans ((below_alloc _ (.cells #[.int .i64 ((0 : Nat) : Int), .int .i64 ((0 : Nat) : Int)] 82)).mono (by simp only [World.size_alloc]; omega))
      replace P0 := hide (P0.out.step (al))
      replace P1 := hide (P1.out.step (al))
      replace P2 := hide (P2.out.step (al))
      replace P3 := hide (P3.out.step (al))
      replace P4 := hide (P4.out.step (al))
      replace HB := hide (HB.out.trans ((al).mono HB.out.size))
      replace I1 := hide (I1.out.below (al))
      replace V1 := hide (V1.out.step (al))
      replace I2 := hide (I2.out.below (al))
      replace V2 := hide (V2.out.step (al))
      replace I3 := hide (I3.out.below (al))
      clear al
      generalize ((u3.alloc (.cells #[.bool s3, .slice m3 n3 c3] 28)).alloc (.cells #[.int .i64 ((0 : Nat) : Int), .int .i64 ((0 : Nat) : Int)] 82)) = u3a at *
      generalize u3.heap.size = g3 at *
      refine (iread_any b _ (Nat.le_trans LB.out (by decide))).mono ?_
      rintro e u4 ⟨v, z4, e4, q4, rfl, kx4, hr, hb⟩
      obtain ⟨s4, m4, n4, c4, rfl, ky4⟩ := kx4.cells
      obtain ⟨rfl, rfl, rfl⟩ := hr.same K2.out
      replace P0 := hide (P0.out.step (hb))
      replace P1 := hide (P1.out.step (hb))
      replace P2 := hide (P2.out.step (hb))
      replace P3 := hide (P3.out.step (hb))
      replace P4 := hide (P4.out.step (hb))
      replace HB := hide (HB.out.trans ((hb).mono HB.out.size))
      replace I1 := hide (I1.out.below (hb))
      replace V1 := hide (V1.out.step (hb))
      replace I2 := hide (I2.out.below (hb))
      replace V2 := hide (V2.out.step (hb))
      replace I3 := hide (I3.out.below (hb))
      replace V3 := hide (V3.out.step (hb))
      replace S3 := hide (S3.out.step (hb))
      have I4 := hide (ky4)
      clear hb kx4 ky4 hr
      go_upto_region 7 with fail
      have hp4 := P4.out.lt
      have V4 := Box.new u4 (.bool s4) (.slice m4 n4 c4)
      replace V4 := V4.step (below_alloc _ (.cells #[.int .i64 ((0 : Nat) : Int), .int .i64 ((0 : Nat) : Int)] 82))
      replace V4 := hide V4
      have S4 := BoxS.new (u4.alloc (.cells #[.bool s4, .slice m4 n4 c4] 28)) (.int .i64 ((0 : Nat) : Int)) (.int .i64 ((0 : Nat) : Int))
      simp only [World.size_alloc] at S4
      replace S4 := hide S4
      have al := below_alloc u4 (.cells #[.bool s4, .slice m4 n4 c4] 28)
      replace al := al.trans ((below_alloc _ (.cells #[.int .i64 ((0 : Nat) : Int), .int .i64 ((0 : Nat) : Int)] 82)).mono (by simp only [World.size_alloc]; omega))
      replace P0 := hide (P0.out.step (al))
      replace P1 := hide (P1.out.step (al))
      replace P2 := hide (P2.out.step (al))
      replace P3 := hide (P3.out.step (al))
      replace P4 := hide (P4.out.step (al))
      replace HB := hide (HB.out.trans ((al).mono HB.out.size))
      replace I1 := hide (I1.out.below (al))
      replace V1 := hide (V1.out.step (al))
      replace I2 := hide (I2.out.below (al))
      replace V2 := hide (V2.out.step (al))
      replace I3 := hide (I3.out.below (al))
      replace V3 := hide (V3.out.step (al))
      replace S3 := hide (S3.out.step (al))
      replace I4 := hide (I4.out.below (al))
      clear al
      generalize ((u4.alloc (.cells #[.bool s4, .slice m4 n4 c4] 28)).alloc (.cells #[.int .i64 ((0 : Nat) : Int), .int .i64 ((0 : Nat) : Int)] 82)) = u4a at *
      generalize u4.heap.size = g4 at *
      have LTS' := hide (And.intro LTS.out (And.intro hp3 hp4))
      clear hp3 hp4 LTS
      have LTS := hide LTS'.out
      clear LTS'
      replace P1 := hide P1.out.drew
      replace P2 := hide P2.out.drew
      replace P3 := hide P3.out.drew
      replace P4 := hide P4.out.drew
      replace I1 := hide I1.out.drew
      replace I2 := hide I2.out.drew
      replace I3 := hide I3.out.drew
      replace I4 := hide I4.out.drew
      refine wp_calm (fun w' => Below w.heap.size w w' ∧ BoxR w' g1 (.bool s1) (.slice m1 n1 c1) ∧ BoxR w' g2 (.bool s2) (.slice m2 n2 c2) ∧ Box w' g3 (.bool s3) (.slice m3 n3 c3) ∧ Box w' g4 (.bool s4) (.slice m4 n4 c4)) (fun _ => true) 9 #[false, false, false, false, false, false, false, false, false] (by kernel_rfl) rfl rfl ?_
      have HF := hide (And.intro (HB.out.drew) (And.intro (V1.out.drew) (And.intro (V2.out.drew) (And.intro (V3.out.drew) (V4.out.drew)))))
      generalize u4a.drew = u4ad at *
      refine Calm.take (i := 0) (v := ?_) (a' := ?_) (l' := #[true, false, false, false, false, false, false, false, false]) (d := some 49) rfl (by kernel_rfl) (by kernel_rfl) (by kernel_rfl) (by kernel_rfl) (fun _ _ _ h => h) HF.out rfl ?_ rfl rfl ?_ ?_
      rotate_left
      · intro w' hF; have f10 := hF.2.1.cell0; have f11 := hF.2.1.cell1; have f20 := hF.2.2.1.cell0; have f21 := hF.2.2.1.cell1; have f30 := hF.2.2.2.1.cell0; have f31 := hF.2.2.2.1.cell1; have f40 := hF.2.2.2.2.cell0; have f41 := hF.2.2.2.2.cell1; clear hF; go_simp; try rfl
      rotate_left
      · simp only [Act.put]; exact rfl
      refine Calm.take (i := 1) (v := ?_) (a' := ?_) (l' := #[true, true, false, false, false, false, false, false, false]) (d := some 50) rfl (by kernel_rfl) (by kernel_rfl) (by kernel_rfl) (by kernel_rfl) (fun _ _ _ h => h) HF.out rfl ?_ rfl rfl ?_ ?_
      rotate_left
      · intro w' hF; have f10 := hF.2.1.cell0; have f11 := hF.2.1.cell1; have f20 := hF.2.2.1.cell0; have f21 := hF.2.2.1.cell1; have f30 := hF.2.2.2.1.cell0; have f31 := hF.2.2.2.1.cell1; have f40 := hF.2.2.2.2.cell0; have f41 := hF.2.2.2.2.cell1; clear hF; go_simp; try rfl
      rotate_left
      · simp only [Act.put]; exact rfl
      refine Calm.take (i := 2) (v := ?_) (a' := ?_) (l' := #[true, true, true, false, false, false, false, false, false]) (d := some 51) rfl (by kernel_rfl) (by kernel_rfl) (by kernel_rfl) (by kernel_rfl) (fun _ _ _ h => h) HF.out rfl ?_ rfl rfl ?_ ?_
      rotate_left
      · intro w' hF; have f10 := hF.2.1.cell0; have f11 := hF.2.1.cell1; have f20 := hF.2.2.1.cell0; have f21 := hF.2.2.1.cell1; have f30 := hF.2.2.2.1.cell0; have f31 := hF.2.2.2.1.cell1; have f40 := hF.2.2.2.2.cell0; have f41 := hF.2.2.2.2.cell1; clear hF; go_simp; try rfl
      rotate_left
      · simp only [Act.put]; exact rfl
      refine Calm.take (i := 3) (v := ?_) (a' := ?_) (l' := #[true, true, true, true, false, false, false, false, false]) (d := some 52) rfl (by kernel_rfl) (by kernel_rfl) (by kernel_rfl) (by kernel_rfl) (fun _ _ _ h => h) HF.out rfl ?_ rfl rfl ?_ ?_
      rotate_left
      · intro w' hF; have f10 := hF.2.1.cell0; have f11 := hF.2.1.cell1; have f20 := hF.2.2.1.cell0; have f21 := hF.2.2.1.cell1; have f30 := hF.2.2.2.1.cell0; have f31 := hF.2.2.2.1.cell1; have f40 := hF.2.2.2.2.cell0; have f41 := hF.2.2.2.2.cell1; clear hF; go_simp; try rfl
      rotate_left
      · simp only [Act.put]; exact rfl
      refine Calm.one (i := 4) (l' := #[true, true, true, true, true, false, false, false, false]) (by kernel_rfl) rfl rfl rfl fun K hK => ?_
      have hc0 := P1.out.cell0
      have hc1 := P1.out.cell1
      have hf0 := P1.out.free 0
      have hf1 := P1.out.free 1
      go_simp
      have HF' := hide (And.intro (below_put HF.out.1 (show w.heap.size ≤ (w.heap.size + 1) by have hx := LTS.out; omega) (.bool s3) (.slice m3 n3 c3)) (And.intro (HF.out.2.1.other (C := (w.heap.size + 1)) (by have hx := LTS.out; omega) (.bool s3) (.slice m3 n3 c3)) (And.intro (HF.out.2.2.1.other (C := (w.heap.size + 1)) (by have hx := LTS.out; omega) (.bool s3) (.slice m3 n3 c3)) (And.intro (HF.out.2.2.2.1.other (C := (w.heap.size + 1)) (by have hx := LTS.out; omega) (.bool s3) (.slice m3 n3 c3)) (HF.out.2.2.2.2.other (C := (w.heap.size + 1)) (by have hx := LTS.out; omega) (.bool s3) (.slice m3 n3 c3))))))
      replace P2 := hide (P2.out.other (C := (w.heap.size + 1)) (by have hx := LTS.out; omega) (.bool s3) (.slice m3 n3 c3))
      replace P3 := hide (P3.out.other (C := (w.heap.size + 1)) (by have hx := LTS.out; omega) (.bool s3) (.slice m3 n3 c3))
      replace P4 := hide (P4.out.other (C := (w.heap.size + 1)) (by have hx := LTS.out; omega) (.bool s3) (.slice m3 n3 c3))
      replace I1 := hide (I1.out.keep (P1.out.keeps (by simp) (by simp) (.bool s3) (.slice m3 n3 c3)))
      replace I2 := hide (I2.out.keep (P1.out.keeps (by simp) (by simp) (.bool s3) (.slice m3 n3 c3)))
      replace I3 := hide (I3.out.keep (P1.out.keeps (by simp) (by simp) (.bool s3) (.slice m3 n3 c3)))
      replace I4 := hide (I4.out.keep (P1.out.keeps (by simp) (by simp) (.bool s3) (.slice m3 n3 c3)))
      replace P1 := hide (P1.out.put (.bool s3) (.slice m3 n3 c3))
      refine hK _ _ (fun _ => HF'.out) ?_
      clear hK K HF hc0 hf0 hc1 hf1
      have HF := hide HF'.out
      clear HF'
      generalize ((u4ad.setCell ⟨(w.heap.size + 1), 0, none⟩ (.bool s3)).setCell ⟨(w.heap.size + 1), 1, none⟩ (.slice m3 n3 c3)) = x1 at *
      refine Calm.one (i := 5) (l' := #[true, true, true, true, true, true, false, false, false]) (by kernel_rfl) rfl rfl rfl fun K hK => ?_
      have hc0 := P2.out.cell0
      have hc1 := P2.out.cell1
      have hf0 := P2.out.free 0
      have hf1 := P2.out.free 1
      go_simp
      have HF' := hide (And.intro (below_put HF.out.1 (show w.heap.size ≤ (w.heap.size + 1 + 1) by have hx := LTS.out; omega) (.bool s4) (.slice m4 n4 c4)) (And.intro (HF.out.2.1.other (C := (w.heap.size + 1 + 1)) (by have hx := LTS.out; omega) (.bool s4) (.slice m4 n4 c4)) (And.intro (HF.out.2.2.1.other (C := (w.heap.size + 1 + 1)) (by have hx := LTS.out; omega) (.bool s4) (.slice m4 n4 c4)) (And.intro (HF.out.2.2.2.1.other (C := (w.heap.size + 1 + 1)) (by have hx := LTS.out; omega) (.bool s4) (.slice m4 n4 c4)) (HF.out.2.2.2.2.other (C := (w.heap.size + 1 + 1)) (by have hx := LTS.out; omega) (.bool s4) (.slice m4 n4 c4))))))
      replace P1 := hide (P1.out.other (C := (w.heap.size + 1 + 1)) (by have hx := LTS.out; omega) (.bool s4) (.slice m4 n4 c4))
      replace P3 := hide (P3.out.other (C := (w.heap.size + 1 + 1)) (by have hx := LTS.out; omega) (.bool s4) (.slice m4 n4 c4))
      replace P4 := hide (P4.out.other (C := (w.heap.size + 1 + 1)) (by have hx := LTS.out; omega) (.bool s4) (.slice m4 n4 c4))
      replace I1 := hide (I1.out.keep (P2.out.keeps (by simp) (by simp) (.bool s4) (.slice m4 n4 c4)))
      replace I2 := hide (I2.out.keep (P2.out.keeps (by simp) (by simp) (.bool s4) (.slice m4 n4 c4)))
      replace I3 := hide (I3.out.keep (P2.out.keeps (by simp) (by simp) (.bool s4) (.slice m4 n4 c4)))
      replace I4 := hide (I4.out.keep (P2.out.keeps (by simp) (by simp) (.bool s4) (.slice m4 n4 c4)))
      replace P2 := hide (P2.out.put (.bool s4) (.slice m4 n4 c4))
      refine hK _ _ (fun _ => HF'.out) ?_
      clear hK K HF hc0 hf0 hc1 hf1
      have HF := hide HF'.out
      clear HF'
      generalize ((x1.setCell ⟨(w.heap.size + 1 + 1), 0, none⟩ (.bool s4)).setCell ⟨(w.heap.size + 1 + 1), 1, none⟩ (.slice m4 n4 c4)) = x2 at *
      refine Calm.one (i := 6) (l' := #[true, true, true, true, true, true, true, false, false]) (by kernel_rfl) rfl rfl rfl fun K hK => ?_
      have hc0 := P3.out.cell0
      have hc1 := P3.out.cell1
      have hf0 := P3.out.free 0
      have hf1 := P3.out.free 1
      go_simp
      have HF' := hide (And.intro (below_put HF.out.1 (show w.heap.size ≤ (w.heap.size + 1 + 1 + 1) by have hx := LTS.out; omega) (.bool s1) (.slice m1 n1 c1)) (And.intro (HF.out.2.1.other (C := (w.heap.size + 1 + 1 + 1)) (by have hx := LTS.out; omega) (.bool s1) (.slice m1 n1 c1)) (And.intro (HF.out.2.2.1.other (C := (w.heap.size + 1 + 1 + 1)) (by have hx := LTS.out; omega) (.bool s1) (.slice m1 n1 c1)) (And.intro (HF.out.2.2.2.1.other (C := (w.heap.size + 1 + 1 + 1)) (by have hx := LTS.out; omega) (.bool s1) (.slice m1 n1 c1)) (HF.out.2.2.2.2.other (C := (w.heap.size + 1 + 1 + 1)) (by have hx := LTS.out; omega) (.bool s1) (.slice m1 n1 c1))))))
      replace P1 := hide (P1.out.other (C := (w.heap.size + 1 + 1 + 1)) (by have hx := LTS.out; omega) (.bool s1) (.slice m1 n1 c1))
      replace P2 := hide (P2.out.other (C := (w.heap.size + 1 + 1 + 1)) (by have hx := LTS.out; omega) (.bool s1) (.slice m1 n1 c1))
      replace P4 := hide (P4.out.other (C := (w.heap.size + 1 + 1 + 1)) (by have hx := LTS.out; omega) (.bool s1) (.slice m1 n1 c1))
      replace I1 := hide (I1.out.keep (P3.out.keeps (by simp) (by simp) (.bool s1) (.slice m1 n1 c1)))
      replace I2 := hide (I2.out.keep (P3.out.keeps (by simp) (by simp) (.bool s1) (.slice m1 n1 c1)))
      replace I3 := hide (I3.out.keep (P3.out.keeps (by simp) (by simp) (.bool s1) (.slice m1 n1 c1)))
      replace I4 := hide (I4.out.keep (P3.out.keeps (by simp) (by simp) (.bool s1) (.slice m1 n1 c1)))
      replace P3 := hide (P3.out.put (.bool s1) (.slice m1 n1 c1))
      refine hK _ _ (fun _ => HF'.out) ?_
      clear hK K HF hc0 hf0 hc1 hf1
      have HF := hide HF'.out
      clear HF'
      generalize ((x2.setCell ⟨(w.heap.size + 1 + 1 + 1), 0, none⟩ (.bool s1)).setCell ⟨(w.heap.size + 1 + 1 + 1), 1, none⟩ (.slice m1 n1 c1)) = x3 at *
      refine Calm.one (i := 7) (l' := #[true, true, true, true, true, true, true, true, false]) (by kernel_rfl) rfl rfl rfl fun K hK => ?_
      have hc0 := P4.out.cell0
      have hc1 := P4.out.cell1
      have hf0 := P4.out.free 0
      have hf1 := P4.out.free 1
      go_simp
      have HF' := hide (And.intro (below_put HF.out.1 (show w.heap.size ≤ (w.heap.size + 1 + 1 + 1 + 1) by have hx := LTS.out; omega) (.bool s2) (.slice m2 n2 c2)) (And.intro (HF.out.2.1.other (C := (w.heap.size + 1 + 1 + 1 + 1)) (by have hx := LTS.out; omega) (.bool s2) (.slice m2 n2 c2)) (And.intro (HF.out.2.2.1.other (C := (w.heap.size + 1 + 1 + 1 + 1)) (by have hx := LTS.out; omega) (.bool s2) (.slice m2 n2 c2)) (And.intro (HF.out.2.2.2.1.other (C := (w.heap.size + 1 + 1 + 1 + 1)) (by have hx := LTS.out; omega) (.bool s2) (.slice m2 n2 c2)) (HF.out.2.2.2.2.other (C := (w.heap.size + 1 + 1 + 1 + 1)) (by have hx := LTS.out; omega) (.bool s2) (.slice m2 n2 c2))))))
      replace P1 := hide (P1.out.other (C := (w.heap.size + 1 + 1 + 1 + 1)) (by have hx := LTS.out; omega) (.bool s2) (.slice m2 n2 c2))
      replace P2 := hide (P2.out.other (C := (w.heap.size + 1 + 1 + 1 + 1)) (by have hx := LTS.out; omega) (.bool s2) (.slice m2 n2 c2))
      replace P3 := hide (P3.out.other (C := (w.heap.size + 1 + 1 + 1 + 1)) (by have hx := LTS.out; omega) (.bool s2) (.slice m2 n2 c2))
      replace I1 := hide (I1.out.keep (P4.out.keeps (by simp) (by simp) (.bool s2) (.slice m2 n2 c2)))
      replace I2 := hide (I2.out.keep (P4.out.keeps (by simp) (by simp) (.bool s2) (.slice m2 n2 c2)))
      replace I3 := hide (I3.out.keep (P4.out.keeps (by simp) (by simp) (.bool s2) (.slice m2 n2 c2)))
      replace I4 := hide (I4.out.keep (P4.out.keeps (by simp) (by simp) (.bool s2) (.slice m2 n2 c2)))
      replace P4 := hide (P4.out.put (.bool s2) (.slice m2 n2 c2))
      refine hK _ _ (fun _ => HF'.out) ?_
      clear hK K HF hc0 hf0 hc1 hf1
      have HF := hide HF'.out
      clear HF'
      generalize ((x3.setCell ⟨(w.heap.size + 1 + 1 + 1 + 1), 0, none⟩ (.bool s2)).setCell ⟨(w.heap.size + 1 + 1 + 1 + 1), 1, none⟩ (.slice m2 n2 c2)) = x4 at *
      refine Calm.take (i := 8) (v := ?_) (a' := ?_) (l' := #[true, true, true, true, true, true, true, true, true]) (d := some 6) rfl (by kernel_rfl) (by kernel_rfl) (by kernel_rfl) (by kernel_rfl) (fun _ _ _ h => h) HF.out rfl ?_ rfl rfl ?_ ?_
      rotate_left
      · intro w' hF; clear hF; go_simp; try rfl
      rotate_left
      · simp only [Act.put]; exact rfl
      refine Calm.done (by kernel_rfl) ?_
      replace HB := hide HF.out.1
      replace V1 := hide HF.out.2.1
      replace V2 := hide HF.out.2.2.1
      replace V3 := hide HF.out.2.2.2.1
      replace V4 := hide HF.out.2.2.2.2
      clear HF
      clear P0
      clear S3
      clear S4
      go_wp2
      refine ret_nums rfl (w.heap.size + 1) (w.heap.size + 1 + 1) (w.heap.size + 1 + 1 + 1) (w.heap.size + 1 + 1 + 1 + 1) _ _ _ _ _ _ _ _ _ rfl P1.out rfl P2.out rfl P3.out rfl P4.out rfl rfl ?_
      exact ⟨⟨_, _, _, _, _, _, _, _, true, rfl, I3.out, I4.out, I1.out, I2.out, fun _ => ⟨rfl, rfl, K1.out.sz, K2.out.sz⟩⟩, HB.out⟩

end Go.Proofs.Ytbaicocncalfaaa
