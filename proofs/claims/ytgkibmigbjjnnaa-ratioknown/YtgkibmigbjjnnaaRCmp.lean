/- ratio.Rat's Cmp and Floor. -/
import Derived.Test.YtgkibmigbjjnnaaRLow
import Derived.Test.YtgkibmigbjjnnaaPtrC
import Derived.Deep.Cut
namespace Go.Proofs.Ytgkibmigbjjnnaa
open Go.RowKit

set_option maxRecDepth 100000 in
set_option maxHeartbeats 4000000 in
theorem rtcmp_any (v1 v2 : Value) (x y : Rat) (w : World) (h1 : RatAt w v1 x) (h2 : RatAt w v2 y) (hx : SzR 100000000 x) (hy : SzR 100000000 y) :
    Calls Try.prog 19 #[v1, v2] w fun e w' => e = .returned (.int .i64 (cmpZ (x.num * (y.den : Int)) (y.num * (x.den : Int)))) ∧ Below w.heap.size w w' := by
  have HX := hide hx
  have HY := hide hy
  clear hx hy
  obtain ⟨s1, m1, n1, c1, t1, o1, p1, d1, rfl, i1⟩ := h1.cells
  have I1 := hide i1
  clear h1 i1
  obtain ⟨s2, m2, n2, c2, t2, o2, p2, d2, rfl, i2⟩ := h2.cells
  have I2 := hide i2
  clear h2 i2
  have P0 := Box4.new w (.bool s1) (.slice m1 n1 c1) (.bool t1) (.slice o1 p1 d1)
  replace P0 := P0.step (below_alloc _ (.cells #[.bool s2, .slice m2 n2 c2, .bool t2, .slice o2 p2 d2] 27))
  replace P0 := hide P0
  have P1 := Box4.new (w.alloc (.cells #[.bool s1, .slice m1 n1 c1, .bool t1, .slice o1 p1 d1] 27)) (.bool s2) (.slice m2 n2 c2) (.bool t2) (.slice o2 p2 d2)
  simp only [World.size_alloc] at P1
  replace P1 := hide P1
  have HB := below_alloc w (.cells #[.bool s1, .slice m1 n1 c1, .bool t1, .slice o1 p1 d1] 27)
  replace HB := HB.trans ((below_alloc _ (.cells #[.bool s2, .slice m2 n2 c2, .bool t2, .slice o2 p2 d2] 27)).mono (by simp only [World.size_alloc]; omega))
  replace I1 := hide (I1.out.below HB)
  replace I2 := hide (I2.out.below HB)
  replace HB := hide HB
  go_enter Try.func19, Try.ntmps19
  go_wp2_with fail
  generalize ((w.alloc (.cells #[.bool s1, .slice m1 n1 c1, .bool t1, .slice o1 p1 d1] 27)).alloc (.cells #[.bool s2, .slice m2 n2 c2, .bool t2, .slice o2 p2 d2] 27)) = w0 at *
  refine wp_calm (fun w' => Below w.heap.size w w' ∧ Box4 w' w.heap.size (.bool s1) (.slice m1 n1 c1) (.bool t1) (.slice o1 p1 d1) ∧ Box4 w' (w.heap.size + 1) (.bool s2) (.slice m2 n2 c2) (.bool t2) (.slice o2 p2 d2) ∧ RatAt w' (.agg #[.bool s1, .slice m1 n1 c1, .bool t1, .slice o1 p1 d1]) x ∧ RatAt w' (.agg #[.bool s2, .slice m2 n2 c2, .bool t2, .slice o2 p2 d2]) y) (fun _ => true) 12 #[false, false, false, false, false, false, false, false, false, false, false, false] (by kernel_rfl) rfl rfl ?_
  have HF := hide (And.intro (HB.out.drew) (And.intro (P0.out.drew) (And.intro (P1.out.drew) (And.intro (I1.out.drew) (I2.out.drew)))))
  generalize w0.drew = w0d at *
  refine Calm.take (i := 0) (v := ?_) (a' := ?_) (l' := #[true, false, false, false, false, false, false, false, false, false, false, false]) (d := some 5) rfl (by kernel_rfl) (by kernel_rfl) (by kernel_rfl) (by kernel_rfl) (fun _ _ _ h => h) HF.out rfl ?_ rfl rfl ?_ ?_
  rotate_left
  · intro w' hF; clear hF; go_simp; try rfl
  rotate_left
  · simp only [Act.put]; exact rfl
  refine Calm.take (i := 1) (v := ?_) (a' := ?_) (l' := #[true, true, false, false, false, false, false, false, false, false, false, false]) (d := some 6) rfl (by kernel_rfl) (by kernel_rfl) (by kernel_rfl) (by kernel_rfl) (fun _ _ _ h => h) HF.out rfl ?_ rfl rfl ?_ ?_
  rotate_left
  · intro w' hF; have f10 := hF.2.1.cell0; have f11 := hF.2.1.cell1; have f12 := hF.2.1.cell2; have f13 := hF.2.1.cell3; have f20 := hF.2.2.1.cell0; have f21 := hF.2.2.1.cell1; have f22 := hF.2.2.1.cell2; have f23 := hF.2.2.1.cell3; clear hF; go_simp; try rfl
  rotate_left
  · simp only [Act.put]; exact rfl
  refine Calm.take (i := 2) (v := ?_) (a' := ?_) (l' := #[true, true, true, false, false, false, false, false, false, false, false, false]) (d := some 7) rfl (by kernel_rfl) (by kernel_rfl) (by kernel_rfl) (by kernel_rfl) (fun _ _ _ h => h) HF.out rfl ?_ rfl rfl ?_ ?_
  rotate_left
  · intro w' hF; have f10 := hF.2.1.cell0; have f11 := hF.2.1.cell1; have f12 := hF.2.1.cell2; have f13 := hF.2.1.cell3; have f20 := hF.2.2.1.cell0; have f21 := hF.2.2.1.cell1; have f22 := hF.2.2.1.cell2; have f23 := hF.2.2.1.cell3; clear hF; go_simp; try rfl
  rotate_left
  · simp only [Act.put]; exact rfl
  refine Calm.take (i := 5) (v := ?_) (a' := ?_) (l' := #[true, true, true, false, false, true, false, false, false, false, false, false]) (d := some 10) rfl (by kernel_rfl) (by kernel_rfl) (by kernel_rfl) (by kernel_rfl) (fun _ _ _ h => h) HF.out rfl ?_ rfl rfl ?_ ?_
  rotate_left
  · intro w' hF; clear hF; go_simp; try rfl
  rotate_left
  · simp only [Act.put]; exact rfl
  refine Calm.take (i := 6) (v := ?_) (a' := ?_) (l' := #[true, true, true, false, false, true, true, false, false, false, false, false]) (d := some 11) rfl (by kernel_rfl) (by kernel_rfl) (by kernel_rfl) (by kernel_rfl) (fun _ _ _ h => h) HF.out rfl ?_ rfl rfl ?_ ?_
  rotate_left
  · intro w' hF; have f10 := hF.2.1.cell0; have f11 := hF.2.1.cell1; have f12 := hF.2.1.cell2; have f13 := hF.2.1.cell3; have f20 := hF.2.2.1.cell0; have f21 := hF.2.2.1.cell1; have f22 := hF.2.2.1.cell2; have f23 := hF.2.2.1.cell3; clear hF; go_simp; try rfl
  rotate_left
  · simp only [Act.put]; exact rfl
  refine Calm.take (i := 7) (v := ?_) (a' := ?_) (l' := #[true, true, true, false, false, true, true, true, false, false, false, false]) (d := some 12) rfl (by kernel_rfl) (by kernel_rfl) (by kernel_rfl) (by kernel_rfl) (fun _ _ _ h => h) HF.out rfl ?_ rfl rfl ?_ ?_
  rotate_left
  · intro w' hF; have f10 := hF.2.1.cell0; have f11 := hF.2.1.cell1; have f12 := hF.2.1.cell2; have f13 := hF.2.1.cell3; have f20 := hF.2.2.1.cell0; have f21 := hF.2.2.1.cell1; have f22 := hF.2.2.1.cell2; have f23 := hF.2.2.1.cell3; clear hF; go_simp; try rfl
  rotate_left
  · simp only [Act.put]; exact rfl
  refine Calm.one (i := 3) (l' := #[true, true, true, true, false, true, true, true, false, false, false, false]) (by kernel_rfl) rfl rfl rfl fun K hK => ?_
  go_simp
  refine (den_any _ y _ HF.out.2.2.2.2).mono ?_
  rintro e u1 ⟨v, rfl, n, hb⟩
  have HF' := hide (And.intro (HF.out.1.trans ((hb).mono HF.out.1.size)) (And.intro (HF.out.2.1.step (hb)) (And.intro (HF.out.2.2.1.step (hb)) (And.intro (HF.out.2.2.2.1.below (hb)) (HF.out.2.2.2.2.below (hb))))))
  have T1 := hide (n)
  refine hK _ _ (fun _ => HF'.out) ?_
  clear hK K HF hb n
  have HF := hide HF'.out
  clear HF'
  refine Calm.one (i := 4) (l' := #[true, true, true, true, true, true, true, true, false, false, false, false]) (by kernel_rfl) rfl rfl rfl fun K hK => ?_
  go_simp
  refine (imul_any _ _ x.num (y.den : Int) _ HF.out.2.2.2.1.num T1.out (SzI.len HX.out.num (by decide)) (SzI.len HY.out.den (by decide))).mono ?_
  rintro e u2 ⟨v, rfl, n, hb⟩
  clear T1
  have HF' := hide (And.intro (HF.out.1.trans ((hb).mono HF.out.1.size)) (And.intro (HF.out.2.1.step (hb)) (And.intro (HF.out.2.2.1.step (hb)) (And.intro (HF.out.2.2.2.1.below (hb)) (HF.out.2.2.2.2.below (hb))))))
  have T2 := hide (n)
  refine hK _ _ (fun _ => HF'.out) ?_
  clear hK K HF hb n
  have HF := hide HF'.out
  clear HF'
  refine Calm.one (i := 8) (l' := #[true, true, true, true, true, true, true, true, true, false, false, false]) (by kernel_rfl) rfl rfl rfl fun K hK => ?_
  go_simp
  refine (den_any _ x _ HF.out.2.2.2.1).mono ?_
  rintro e u3 ⟨v, rfl, n, hb⟩
  replace T2 := hide (T2.out.below (hb))
  have HF' := hide (And.intro (HF.out.1.trans ((hb).mono HF.out.1.size)) (And.intro (HF.out.2.1.step (hb)) (And.intro (HF.out.2.2.1.step (hb)) (And.intro (HF.out.2.2.2.1.below (hb)) (HF.out.2.2.2.2.below (hb))))))
  have T3 := hide (n)
  refine hK _ _ (fun _ => HF'.out) ?_
  clear hK K HF hb n
  have HF := hide HF'.out
  clear HF'
  refine Calm.one (i := 9) (l' := #[true, true, true, true, true, true, true, true, true, true, false, false]) (by kernel_rfl) rfl rfl rfl fun K hK => ?_
  go_simp
  refine (imul_any _ _ y.num (x.den : Int) _ HF.out.2.2.2.2.num T3.out (SzI.len HY.out.num (by decide)) (SzI.len HX.out.den (by decide))).mono ?_
  rintro e u4 ⟨v, rfl, n, hb⟩
  replace T2 := hide (T2.out.below (hb))
  clear T3
  have HF' := hide (And.intro (HF.out.1.trans ((hb).mono HF.out.1.size)) (And.intro (HF.out.2.1.step (hb)) (And.intro (HF.out.2.2.1.step (hb)) (And.intro (HF.out.2.2.2.1.below (hb)) (HF.out.2.2.2.2.below (hb))))))
  have T4 := hide (n)
  refine hK _ _ (fun _ => HF'.out) ?_
  clear hK K HF hb n
  have HF := hide HF'.out
  clear HF'
  refine Calm.one (i := 10) (l' := #[true, true, true, true, true, true, true, true, true, true, true, false]) (by kernel_rfl) rfl rfl rfl fun K hK => ?_
  go_simp
  refine (icmp_any _ _ (x.num * (y.den : Int)) (y.num * (x.den : Int)) _ T2.out T4.out).mono ?_
  rintro e u5 ⟨rfl, hb⟩
  clear T2
  clear T4
  have HF' := hide (And.intro (HF.out.1.trans ((hb).mono HF.out.1.size)) (And.intro (HF.out.2.1.step (hb)) (And.intro (HF.out.2.2.1.step (hb)) (And.intro (HF.out.2.2.2.1.below (hb)) (HF.out.2.2.2.2.below (hb))))))
  refine hK _ _ (fun _ => HF'.out) ?_
  clear hK K HF hb
  have HF := hide HF'.out
  clear HF'
  refine Calm.take (i := 11) (v := ?_) (a' := ?_) (l' := #[true, true, true, true, true, true, true, true, true, true, true, true]) (d := some 4) rfl (by kernel_rfl) (by kernel_rfl) (by kernel_rfl) (by kernel_rfl) (fun _ _ _ h => h) HF.out rfl ?_ rfl rfl ?_ ?_
  rotate_left
  · intro w' hF; clear hF; go_simp; try rfl
  rotate_left
  · simp only [Act.put]; exact rfl
  refine Calm.done (by kernel_rfl) ?_
  replace HB := hide HF.out.1
  replace P0 := hide HF.out.2.1
  replace P1 := hide HF.out.2.2.1
  replace I1 := hide HF.out.2.2.2.1
  replace I2 := hide HF.out.2.2.2.2
  clear HF
  go_wp2
  go_ret
  exact ⟨rfl, HB.out⟩

set_option maxRecDepth 100000 in
set_option maxHeartbeats 4000000 in
theorem rtfloor_any (v1 : Value) (x : Rat) (w : World) (h1 : RatAt w v1 x) (hx : SzR 100000000 x) :
    Calls Try.prog 32 #[v1] w fun e w' => ∃ v', e = .returned v' ∧ IntAt w' v' x.floor ∧ Below w.heap.size w w' := by
  have HX := hide hx
  clear hx
  obtain ⟨s1, m1, n1, c1, t1, o1, p1, d1, rfl, i1⟩ := h1.cells
  have I1 := hide i1
  clear h1 i1
  have P0 := Box4.new w (.bool s1) (.slice m1 n1 c1) (.bool t1) (.slice o1 p1 d1)
  replace P0 := P0.step (below_alloc _ (.cells #[.bool false, .slice none 0 0] 25))
  replace P0 := hide P0
  have P1 := Box.new (w.alloc (.cells #[.bool s1, .slice m1 n1 c1, .bool t1, .slice o1 p1 d1] 27)) (.bool false) (.slice none 0 0)
  simp only [World.size_alloc] at P1
  replace P1 := hide P1
  have HB := below_alloc w (.cells #[.bool s1, .slice m1 n1 c1, .bool t1, .slice o1 p1 d1] 27)
  replace HB := HB.trans ((below_alloc _ (.cells #[.bool false, .slice none 0 0] 25)).mono (by simp only [World.size_alloc]; omega))
  replace I1 := hide (I1.out.below HB)
  replace HB := hide HB
  go_enter Try.func32, Try.ntmps32
  go_wp2_with fail
  generalize ((w.alloc (.cells #[.bool s1, .slice m1 n1 c1, .bool t1, .slice o1 p1 d1] 27)).alloc (.cells #[.bool false, .slice none 0 0] 25)) = w0 at *
  go_cut [3, 4] from 6 (fun pt0 pt1 wx => ∃ ga s2 m2 n2 c2 gb s3 m3 n3 c3, pt0 = .pointer (some ⟨ga, 0, none⟩) ∧ w0.heap.size ≤ ga ∧ Box wx ga (.bool s2) (.slice m2 n2 c2) ∧ IntAt wx (.agg #[.bool s2, .slice m2 n2 c2]) (x.num / (x.den : Int)) ∧ pt1 = .pointer (some ⟨gb, 0, none⟩) ∧ w0.heap.size ≤ gb ∧ Box wx gb (.bool s3) (.slice m3 n3 c3) ∧ IntAt wx (.agg #[.bool s3, .slice m3 n3 c3]) (x.num % (x.den : Int)) ∧ ga ≠ gb ∧ Below w0.heap.size w0 wx)
  case first =>
    refine wp_facts (fun L T wq => Below w0.heap.size w0 wq ∧ T 1 = .pointer (some ⟨w.heap.size, 0, none⟩) ∧ (L 0 = true → T 7 = .pointer (some ⟨w.heap.size, 0, none⟩)) ∧ (L 1 = true → T 8 = .agg #[.bool s1, .slice m1 n1 c1]) ∧ (L 2 = true → T 9 = .agg #[.bool s1, .slice m1 n1 c1, .bool t1, .slice o1 p1 d1]) ∧ (L 3 = true → IntAt wq (T 10) (x.den : Int)) ∧ (L 4 = true → ∃ v0 v1 v2 : Value, T 11 = .tuple #[v0, v1, v2] ∧ IntAt wq (v0) (x.num / (x.den : Int)) ∧ IntAt wq (v1) (x.num % (x.den : Int)) ∧ v2 = .int .i64 0) ∧ (L 5 = true → ∃ v0 v1 v2 : Value, T 6 = .tuple #[v0, v1, v2] ∧ IntAt wq (v0) (x.num / (x.den : Int)) ∧ IntAt wq (v1) (x.num % (x.den : Int)) ∧ v2 = .int .i64 0) ∧ (L 6 = true → IntAt wq (T 12) (x.num / (x.den : Int))) ∧ (L 7 = true → IntAt wq (T 13) (x.num % (x.den : Int))) ∧ (L 8 = true → T 14 = .int .i64 0) ∧ (L 13 = true → T 5 = .int .i64 0) ∧ (L 9 = true → PS w0.heap.size wq (T 3)) ∧ (L 9 = true → L 11 = false → PB w0.heap.size wq 25 (T 3) [.bool false, .slice none 0 0]) ∧ (L 10 = true → PS w0.heap.size wq (T 4)) ∧ (L 10 = true → L 12 = false → PB w0.heap.size wq 25 (T 4) [.bool false, .slice none 0 0]) ∧ (L 9 = true → L 10 = true → T 3 ≠ T 4) ∧ (L 11 = true → PV w0.heap.size wq 25 (T 3) (T 12)) ∧ (L 12 = true → PV w0.heap.size wq 25 (T 4) (T 13))) 16 [3, 4, 5, 6, 7, 8, 9, 10, 11, 12, 13, 14] [0, 1, 2, 3, 4, 5, 6, 7, 8, 9, 10, 11, 12, 13] (by kernel_rfl) (by kernel_rfl) (by kernel_rfl) (by kernel_rfl) ?_ ?_ ?_
    · exact ⟨(Below.refl w0.heap.size w0).drew, rfl, no_yet, no_yet, no_yet, no_yet, no_yet, no_yet, no_yet, no_yet, no_yet, no_yet, no_yet, no_yet, no_yet, no_yet, no_yet, no_yet, no_yet⟩
    · intro i hi
      match i, hi with
      | 0, _ =>
        refine StepAt.of (need := []) (later := []) (k := 6) (d := some 7) rfl rfl (by kernel_rfl) (by kernel_rfl) ?_
        intro L T wq ev a he hL hN hM hJ next hnext
        have e1 := (he.tmp 1).trans hJ.2.1
        go_simp
        exact hnext _ _ ⟨hJ.1, hJ.2.1, fun _ => rfl, hJ.2.2.2.1, hJ.2.2.2.2.1, hJ.2.2.2.2.2.1, hJ.2.2.2.2.2.2.1, hJ.2.2.2.2.2.2.2.1, hJ.2.2.2.2.2.2.2.2.1, hJ.2.2.2.2.2.2.2.2.2.1, hJ.2.2.2.2.2.2.2.2.2.2.1, hJ.2.2.2.2.2.2.2.2.2.2.2.1, hJ.2.2.2.2.2.2.2.2.2.2.2.2.1, hJ.2.2.2.2.2.2.2.2.2.2.2.2.2.1, hJ.2.2.2.2.2.2.2.2.2.2.2.2.2.2.1, hJ.2.2.2.2.2.2.2.2.2.2.2.2.2.2.2.1, hJ.2.2.2.2.2.2.2.2.2.2.2.2.2.2.2.2.1, hJ.2.2.2.2.2.2.2.2.2.2.2.2.2.2.2.2.2.1, hJ.2.2.2.2.2.2.2.2.2.2.2.2.2.2.2.2.2.2⟩
      | 1, _ =>
        refine StepAt.of (need := [0]) (later := []) (k := 6) (d := some 8) rfl rfl (by kernel_rfl) (by kernel_rfl) ?_
        intro L T wq ev a he hL hN hM hJ next hnext
        have e7 := (he.tmp 7).trans (hJ.2.2.1 (hN.1))
        have hcl0 := ((P0.out).step hJ.1).cell0
        have hcl1 := ((P0.out).step hJ.1).cell1
        go_simp
        exact hnext _ _ ⟨hJ.1, hJ.2.1, hJ.2.2.1, fun _ => rfl, hJ.2.2.2.2.1, hJ.2.2.2.2.2.1, hJ.2.2.2.2.2.2.1, hJ.2.2.2.2.2.2.2.1, hJ.2.2.2.2.2.2.2.2.1, hJ.2.2.2.2.2.2.2.2.2.1, hJ.2.2.2.2.2.2.2.2.2.2.1, hJ.2.2.2.2.2.2.2.2.2.2.2.1, hJ.2.2.2.2.2.2.2.2.2.2.2.2.1, hJ.2.2.2.2.2.2.2.2.2.2.2.2.2.1, hJ.2.2.2.2.2.2.2.2.2.2.2.2.2.2.1, hJ.2.2.2.2.2.2.2.2.2.2.2.2.2.2.2.1, hJ.2.2.2.2.2.2.2.2.2.2.2.2.2.2.2.2.1, hJ.2.2.2.2.2.2.2.2.2.2.2.2.2.2.2.2.2.1, hJ.2.2.2.2.2.2.2.2.2.2.2.2.2.2.2.2.2.2⟩
      | 2, _ =>
        refine StepAt.of (need := []) (later := []) (k := 6) (d := some 9) rfl rfl (by kernel_rfl) (by kernel_rfl) ?_
        intro L T wq ev a he hL hN hM hJ next hnext
        have e1 := (he.tmp 1).trans hJ.2.1
        have hcl0 := ((P0.out).step hJ.1).cell0
        have hcl1 := ((P0.out).step hJ.1).cell1
        have hcl2 := ((P0.out).step hJ.1).cell2
        have hcl3 := ((P0.out).step hJ.1).cell3
        go_simp
        exact hnext _ _ ⟨hJ.1, hJ.2.1, hJ.2.2.1, hJ.2.2.2.1, fun _ => rfl, hJ.2.2.2.2.2.1, hJ.2.2.2.2.2.2.1, hJ.2.2.2.2.2.2.2.1, hJ.2.2.2.2.2.2.2.2.1, hJ.2.2.2.2.2.2.2.2.2.1, hJ.2.2.2.2.2.2.2.2.2.2.1, hJ.2.2.2.2.2.2.2.2.2.2.2.1, hJ.2.2.2.2.2.2.2.2.2.2.2.2.1, hJ.2.2.2.2.2.2.2.2.2.2.2.2.2.1, hJ.2.2.2.2.2.2.2.2.2.2.2.2.2.2.1, hJ.2.2.2.2.2.2.2.2.2.2.2.2.2.2.2.1, hJ.2.2.2.2.2.2.2.2.2.2.2.2.2.2.2.2.1, hJ.2.2.2.2.2.2.2.2.2.2.2.2.2.2.2.2.2.1, hJ.2.2.2.2.2.2.2.2.2.2.2.2.2.2.2.2.2.2⟩
      | 3, _ =>
        refine StepAt.of (need := [2]) (later := []) (k := 6) (d := some 10) rfl rfl (by kernel_rfl) (by kernel_rfl) ?_
        intro L T wq ev a he hL hN hM hJ next hnext
        have e9 := (he.tmp 9).trans (hJ.2.2.2.2.1 (hN.1))
        have ef := he.func
        go_simp
        refine (den_any _ x _ (I1.out.below hJ.1)).mono ?_
        rintro e wq' ⟨v, rfl, i, hb⟩
        exact hnext _ _ ⟨hJ.1.trans ((hb).mono hJ.1.size), hJ.2.1, hJ.2.2.1, hJ.2.2.2.1, hJ.2.2.2.2.1, fun _ => i, fun h => let ⟨v0, v1, v2, e, y0, y1, y2⟩ := hJ.2.2.2.2.2.2.1 h; ⟨v0, v1, v2, e, y0.below (hb), y1.below (hb), y2⟩, fun h => let ⟨v0, v1, v2, e, y0, y1, y2⟩ := hJ.2.2.2.2.2.2.2.1 h; ⟨v0, v1, v2, e, y0.below (hb), y1.below (hb), y2⟩, fun h => (hJ.2.2.2.2.2.2.2.2.1 h).below (hb), fun h => (hJ.2.2.2.2.2.2.2.2.2.1 h).below (hb), hJ.2.2.2.2.2.2.2.2.2.2.1, hJ.2.2.2.2.2.2.2.2.2.2.2.1, fun h => (hJ.2.2.2.2.2.2.2.2.2.2.2.2.1 h).step (hb), fun h h' => (hJ.2.2.2.2.2.2.2.2.2.2.2.2.2.1 h h').step (hb), fun h => (hJ.2.2.2.2.2.2.2.2.2.2.2.2.2.2.1 h).step (hb), fun h h' => (hJ.2.2.2.2.2.2.2.2.2.2.2.2.2.2.2.1 h h').step (hb), hJ.2.2.2.2.2.2.2.2.2.2.2.2.2.2.2.2.1, fun h => (hJ.2.2.2.2.2.2.2.2.2.2.2.2.2.2.2.2.2.1 h).step (hb), fun h => (hJ.2.2.2.2.2.2.2.2.2.2.2.2.2.2.2.2.2.2 h).step (hb)⟩
      | 4, _ =>
        refine StepAt.of (need := [1, 3]) (later := []) (k := 6) (d := some 11) rfl rfl (by kernel_rfl) (by kernel_rfl) ?_
        intro L T wq ev a he hL hN hM hJ next hnext
        have e8 := (he.tmp 8).trans (hJ.2.2.2.1 (hN.1))
        have e10 := he.tmp 10
        have ef := he.func
        go_simp
        refine (idivmod_any _ _ x.num (x.den : Int) _ (I1.out.below hJ.1).num (hJ.2.2.2.2.2.1 (hN.2.1)) (SzI.len HX.out.num (by decide)) (SzI.len HX.out.den (by decide)) (by have := x.den_nz; omega)).mono ?_
        rintro e wq' ⟨vq, vr, rfl, i1, i2, hb⟩
        exact hnext _ _ ⟨hJ.1.trans ((hb).mono hJ.1.size), hJ.2.1, hJ.2.2.1, hJ.2.2.2.1, hJ.2.2.2.2.1, fun h => (hJ.2.2.2.2.2.1 h).below (hb), fun _ => ⟨_, _, _, rfl, i1, i2, rfl⟩, fun h => let ⟨v0, v1, v2, e, y0, y1, y2⟩ := hJ.2.2.2.2.2.2.2.1 h; ⟨v0, v1, v2, e, y0.below (hb), y1.below (hb), y2⟩, fun h => (hJ.2.2.2.2.2.2.2.2.1 h).below (hb), fun h => (hJ.2.2.2.2.2.2.2.2.2.1 h).below (hb), hJ.2.2.2.2.2.2.2.2.2.2.1, hJ.2.2.2.2.2.2.2.2.2.2.2.1, fun h => (hJ.2.2.2.2.2.2.2.2.2.2.2.2.1 h).step (hb), fun h h' => (hJ.2.2.2.2.2.2.2.2.2.2.2.2.2.1 h h').step (hb), fun h => (hJ.2.2.2.2.2.2.2.2.2.2.2.2.2.2.1 h).step (hb), fun h h' => (hJ.2.2.2.2.2.2.2.2.2.2.2.2.2.2.2.1 h h').step (hb), hJ.2.2.2.2.2.2.2.2.2.2.2.2.2.2.2.2.1, fun h => (hJ.2.2.2.2.2.2.2.2.2.2.2.2.2.2.2.2.2.1 h).step (hb), fun h => (hJ.2.2.2.2.2.2.2.2.2.2.2.2.2.2.2.2.2.2 h).step (hb)⟩
      | 5, _ =>
        refine StepAt.of (need := [4]) (later := []) (k := 6) (d := some 6) rfl rfl (by kernel_rfl) (by kernel_rfl) ?_
        intro L T wq ev a he hL hN hM hJ next hnext
        have e11 := he.tmp 11
        go_simp
        exact hnext _ _ ⟨hJ.1, hJ.2.1, hJ.2.2.1, hJ.2.2.2.1, hJ.2.2.2.2.1, hJ.2.2.2.2.2.1, hJ.2.2.2.2.2.2.1, fun _ => hJ.2.2.2.2.2.2.1 (hN.1), hJ.2.2.2.2.2.2.2.2.1, hJ.2.2.2.2.2.2.2.2.2.1, hJ.2.2.2.2.2.2.2.2.2.2.1, hJ.2.2.2.2.2.2.2.2.2.2.2.1, hJ.2.2.2.2.2.2.2.2.2.2.2.2.1, hJ.2.2.2.2.2.2.2.2.2.2.2.2.2.1, hJ.2.2.2.2.2.2.2.2.2.2.2.2.2.2.1, hJ.2.2.2.2.2.2.2.2.2.2.2.2.2.2.2.1, hJ.2.2.2.2.2.2.2.2.2.2.2.2.2.2.2.2.1, hJ.2.2.2.2.2.2.2.2.2.2.2.2.2.2.2.2.2.1, hJ.2.2.2.2.2.2.2.2.2.2.2.2.2.2.2.2.2.2⟩
      | 6, _ =>
        refine StepAt.of (need := [5]) (later := [11]) (k := 6) (d := some 12) rfl rfl (by kernel_rfl) (by kernel_rfl) ?_
        intro L T wq ev a he hL hN hM hJ next hnext
        obtain ⟨v0, v1, v2, hv, y0, y1, y2⟩ := hJ.2.2.2.2.2.2.2.1 (hN.1)
        have e6 := (he.tmp 6).trans hv
        go_simp
        exact hnext _ _ ⟨hJ.1, hJ.2.1, hJ.2.2.1, hJ.2.2.2.1, hJ.2.2.2.2.1, hJ.2.2.2.2.2.1, hJ.2.2.2.2.2.2.1, hJ.2.2.2.2.2.2.2.1, fun _ => y0, hJ.2.2.2.2.2.2.2.2.2.1, hJ.2.2.2.2.2.2.2.2.2.2.1, hJ.2.2.2.2.2.2.2.2.2.2.2.1, hJ.2.2.2.2.2.2.2.2.2.2.2.2.1, hJ.2.2.2.2.2.2.2.2.2.2.2.2.2.1, hJ.2.2.2.2.2.2.2.2.2.2.2.2.2.2.1, hJ.2.2.2.2.2.2.2.2.2.2.2.2.2.2.2.1, hJ.2.2.2.2.2.2.2.2.2.2.2.2.2.2.2.2.1, fun h => clash (hM.1) h, hJ.2.2.2.2.2.2.2.2.2.2.2.2.2.2.2.2.2.2⟩
      | 7, _ =>
        refine StepAt.of (need := [5]) (later := [12]) (k := 6) (d := some 13) rfl rfl (by kernel_rfl) (by kernel_rfl) ?_
        intro L T wq ev a he hL hN hM hJ next hnext
        obtain ⟨v0, v1, v2, hv, y0, y1, y2⟩ := hJ.2.2.2.2.2.2.2.1 (hN.1)
        have e6 := (he.tmp 6).trans hv
        go_simp
        exact hnext _ _ ⟨hJ.1, hJ.2.1, hJ.2.2.1, hJ.2.2.2.1, hJ.2.2.2.2.1, hJ.2.2.2.2.2.1, hJ.2.2.2.2.2.2.1, hJ.2.2.2.2.2.2.2.1, hJ.2.2.2.2.2.2.2.2.1, fun _ => y1, hJ.2.2.2.2.2.2.2.2.2.2.1, hJ.2.2.2.2.2.2.2.2.2.2.2.1, hJ.2.2.2.2.2.2.2.2.2.2.2.2.1, hJ.2.2.2.2.2.2.2.2.2.2.2.2.2.1, hJ.2.2.2.2.2.2.2.2.2.2.2.2.2.2.1, hJ.2.2.2.2.2.2.2.2.2.2.2.2.2.2.2.1, hJ.2.2.2.2.2.2.2.2.2.2.2.2.2.2.2.2.1, hJ.2.2.2.2.2.2.2.2.2.2.2.2.2.2.2.2.2.1, fun h => clash (hM.1) h⟩
      | 8, _ =>
        refine StepAt.of (need := [5]) (later := []) (k := 6) (d := some 14) rfl rfl (by kernel_rfl) (by kernel_rfl) ?_
        intro L T wq ev a he hL hN hM hJ next hnext
        obtain ⟨v0, v1, v2, hv, y0, y1, y2⟩ := hJ.2.2.2.2.2.2.2.1 (hN.1)
        have e6 := (he.tmp 6).trans hv
        go_simp
        exact hnext _ _ ⟨hJ.1, hJ.2.1, hJ.2.2.1, hJ.2.2.2.1, hJ.2.2.2.2.1, hJ.2.2.2.2.2.1, hJ.2.2.2.2.2.2.1, hJ.2.2.2.2.2.2.2.1, hJ.2.2.2.2.2.2.2.2.1, hJ.2.2.2.2.2.2.2.2.2.1, fun _ => (by first | exact y2 | exact rfl), hJ.2.2.2.2.2.2.2.2.2.2.2.1, hJ.2.2.2.2.2.2.2.2.2.2.2.2.1, hJ.2.2.2.2.2.2.2.2.2.2.2.2.2.1, hJ.2.2.2.2.2.2.2.2.2.2.2.2.2.2.1, hJ.2.2.2.2.2.2.2.2.2.2.2.2.2.2.2.1, hJ.2.2.2.2.2.2.2.2.2.2.2.2.2.2.2.2.1, hJ.2.2.2.2.2.2.2.2.2.2.2.2.2.2.2.2.2.1, hJ.2.2.2.2.2.2.2.2.2.2.2.2.2.2.2.2.2.2⟩
      | 9, _ =>
        refine StepAt.of (need := []) (later := [11]) (k := 6) (d := some 3) rfl rfl (by kernel_rfl) (by kernel_rfl) ?_
        intro L T wq ev a he hL hN hM hJ next hnext
        go_simp
        have hb := below_alloc wq (.cells #[.bool false, .slice none 0 0] 25)
        exact hnext _ _ ⟨hJ.1.trans ((hb).mono hJ.1.size), hJ.2.1, hJ.2.2.1, hJ.2.2.2.1, hJ.2.2.2.2.1, fun h => (hJ.2.2.2.2.2.1 h).below (hb), fun h => let ⟨v0, v1, v2, e, y0, y1, y2⟩ := hJ.2.2.2.2.2.2.1 h; ⟨v0, v1, v2, e, y0.below (hb), y1.below (hb), y2⟩, fun h => let ⟨v0, v1, v2, e, y0, y1, y2⟩ := hJ.2.2.2.2.2.2.2.1 h; ⟨v0, v1, v2, e, y0.below (hb), y1.below (hb), y2⟩, fun h => (hJ.2.2.2.2.2.2.2.2.1 h).below (hb), fun h => (hJ.2.2.2.2.2.2.2.2.2.1 h).below (hb), hJ.2.2.2.2.2.2.2.2.2.2.1, hJ.2.2.2.2.2.2.2.2.2.2.2.1, fun _ => PS.new hJ.1.size _, fun _ _ => PB.new hJ.1.size _ [.bool false, .slice none 0 0], fun h => (hJ.2.2.2.2.2.2.2.2.2.2.2.2.2.2.1 h).step (hb), fun h h' => (hJ.2.2.2.2.2.2.2.2.2.2.2.2.2.2.2.1 h h').step (hb), fun _ h => Ne.symm (hJ.2.2.2.2.2.2.2.2.2.2.2.2.2.2.1 h).ne, fun h => clash (hM.1) h, fun h => (hJ.2.2.2.2.2.2.2.2.2.2.2.2.2.2.2.2.2.2 h).step (hb)⟩
      | 10, _ =>
        refine StepAt.of (need := []) (later := [12]) (k := 6) (d := some 4) rfl rfl (by kernel_rfl) (by kernel_rfl) ?_
        intro L T wq ev a he hL hN hM hJ next hnext
        go_simp
        have hb := below_alloc wq (.cells #[.bool false, .slice none 0 0] 25)
        exact hnext _ _ ⟨hJ.1.trans ((hb).mono hJ.1.size), hJ.2.1, hJ.2.2.1, hJ.2.2.2.1, hJ.2.2.2.2.1, fun h => (hJ.2.2.2.2.2.1 h).below (hb), fun h => let ⟨v0, v1, v2, e, y0, y1, y2⟩ := hJ.2.2.2.2.2.2.1 h; ⟨v0, v1, v2, e, y0.below (hb), y1.below (hb), y2⟩, fun h => let ⟨v0, v1, v2, e, y0, y1, y2⟩ := hJ.2.2.2.2.2.2.2.1 h; ⟨v0, v1, v2, e, y0.below (hb), y1.below (hb), y2⟩, fun h => (hJ.2.2.2.2.2.2.2.2.1 h).below (hb), fun h => (hJ.2.2.2.2.2.2.2.2.2.1 h).below (hb), hJ.2.2.2.2.2.2.2.2.2.2.1, hJ.2.2.2.2.2.2.2.2.2.2.2.1, fun h => (hJ.2.2.2.2.2.2.2.2.2.2.2.2.1 h).step (hb), fun h h' => (hJ.2.2.2.2.2.2.2.2.2.2.2.2.2.1 h h').step (hb), fun _ => PS.new hJ.1.size _, fun _ _ => PB.new hJ.1.size _ [.bool false, .slice none 0 0], fun h _ => (hJ.2.2.2.2.2.2.2.2.2.2.2.2.1 h).ne, fun h => (hJ.2.2.2.2.2.2.2.2.2.2.2.2.2.2.2.2.2.1 h).step (hb), fun h => clash (hM.1) h⟩
      | 11, _ =>
        refine StepAt.of (need := [9, 6, 10]) (later := []) (k := 6) (d := none) rfl rfl (by kernel_rfl) (by kernel_rfl) ?_
        intro L T wq ev a he hL hN hM hJ next hnext
        obtain ⟨g, hg, hge, hbx⟩ := hJ.2.2.2.2.2.2.2.2.2.2.2.2.2.1 (hN.1) hL
        obtain ⟨sv, mv, nv, cv, hv, iv⟩ := (hJ.2.2.2.2.2.2.2.2.1 (hN.2.1)).cells
        have e3 := (he.tmp 3).trans hg
        have e12 := (he.tmp 12).trans hv
        have hc0 := hbx.cell 0 rfl
        have hf0 := hbx.free 0
        have hc1 := hbx.cell 1 rfl
        have hf1 := hbx.free 1
        have hk := keeps_all hbx (by intro c hc z e; subst e; simp at hc) [.bool sv, .slice mv nv cv] rfl
        go_simp
        exact hnext undef _ ⟨below_all hge [.bool sv, .slice mv nv cv] 0 _ hJ.1, hJ.2.1, hJ.2.2.1, hJ.2.2.2.1, hJ.2.2.2.2.1, fun h => (hJ.2.2.2.2.2.1 h).keep hk, fun h => let ⟨v0, v1, v2, e, y0, y1, y2⟩ := hJ.2.2.2.2.2.2.1 h; ⟨v0, v1, v2, e, y0.keep hk, y1.keep hk, y2⟩, fun h => let ⟨v0, v1, v2, e, y0, y1, y2⟩ := hJ.2.2.2.2.2.2.2.1 h; ⟨v0, v1, v2, e, y0.keep hk, y1.keep hk, y2⟩, fun h => (hJ.2.2.2.2.2.2.2.2.1 h).keep hk, fun h => (hJ.2.2.2.2.2.2.2.2.2.1 h).keep hk, hJ.2.2.2.2.2.2.2.2.2.2.1, hJ.2.2.2.2.2.2.2.2.2.2.2.1, fun h => (hJ.2.2.2.2.2.2.2.2.2.2.2.2.1 h).put [.bool sv, .slice mv nv cv], fun _ h => no_more h, fun h => (hJ.2.2.2.2.2.2.2.2.2.2.2.2.2.2.1 h).put [.bool sv, .slice mv nv cv], fun h h' => (hJ.2.2.2.2.2.2.2.2.2.2.2.2.2.2.2.1 h h').put hg (hJ.2.2.2.2.2.2.2.2.2.2.2.2.2.2.2.2.1 (hN.1) (hN.2.2.1)) [.bool sv, .slice mv nv cv], hJ.2.2.2.2.2.2.2.2.2.2.2.2.2.2.2.2.1, fun _ => PV.set' [.bool sv, .slice mv nv cv] hg hv hbx hge rfl, fun h => (hJ.2.2.2.2.2.2.2.2.2.2.2.2.2.2.2.2.2.2 h).put hg (hJ.2.2.2.2.2.2.2.2.2.2.2.2.2.2.2.2.1 (hN.1) (hN.2.2.1)) [.bool sv, .slice mv nv cv]⟩
      | 12, _ =>
        refine StepAt.of (need := [10, 7, 9]) (later := []) (k := 6) (d := none) rfl rfl (by kernel_rfl) (by kernel_rfl) ?_
        intro L T wq ev a he hL hN hM hJ next hnext
        obtain ⟨g, hg, hge, hbx⟩ := hJ.2.2.2.2.2.2.2.2.2.2.2.2.2.2.2.1 (hN.1) hL
        obtain ⟨sv, mv, nv, cv, hv, iv⟩ := (hJ.2.2.2.2.2.2.2.2.2.1 (hN.2.1)).cells
        have e4 := (he.tmp 4).trans hg
        have e13 := (he.tmp 13).trans hv
        have hc0 := hbx.cell 0 rfl
        have hf0 := hbx.free 0
        have hc1 := hbx.cell 1 rfl
        have hf1 := hbx.free 1
        have hk := keeps_all hbx (by intro c hc z e; subst e; simp at hc) [.bool sv, .slice mv nv cv] rfl
        go_simp
        exact hnext undef _ ⟨below_all hge [.bool sv, .slice mv nv cv] 0 _ hJ.1, hJ.2.1, hJ.2.2.1, hJ.2.2.2.1, hJ.2.2.2.2.1, fun h => (hJ.2.2.2.2.2.1 h).keep hk, fun h => let ⟨v0, v1, v2, e, y0, y1, y2⟩ := hJ.2.2.2.2.2.2.1 h; ⟨v0, v1, v2, e, y0.keep hk, y1.keep hk, y2⟩, fun h => let ⟨v0, v1, v2, e, y0, y1, y2⟩ := hJ.2.2.2.2.2.2.2.1 h; ⟨v0, v1, v2, e, y0.keep hk, y1.keep hk, y2⟩, fun h => (hJ.2.2.2.2.2.2.2.2.1 h).keep hk, fun h => (hJ.2.2.2.2.2.2.2.2.2.1 h).keep hk, hJ.2.2.2.2.2.2.2.2.2.2.1, hJ.2.2.2.2.2.2.2.2.2.2.2.1, fun h => (hJ.2.2.2.2.2.2.2.2.2.2.2.2.1 h).put [.bool sv, .slice mv nv cv], fun h h' => (hJ.2.2.2.2.2.2.2.2.2.2.2.2.2.1 h h').put hg (Ne.symm (hJ.2.2.2.2.2.2.2.2.2.2.2.2.2.2.2.2.1 (hN.2.2.1) (hN.1))) [.bool sv, .slice mv nv cv], fun h => (hJ.2.2.2.2.2.2.2.2.2.2.2.2.2.2.1 h).put [.bool sv, .slice mv nv cv], fun _ h => no_more h, hJ.2.2.2.2.2.2.2.2.2.2.2.2.2.2.2.2.1, fun h => (hJ.2.2.2.2.2.2.2.2.2.2.2.2.2.2.2.2.2.1 h).put hg (Ne.symm (hJ.2.2.2.2.2.2.2.2.2.2.2.2.2.2.2.2.1 (hN.2.2.1) (hN.1))) [.bool sv, .slice mv nv cv], fun _ => PV.set' [.bool sv, .slice mv nv cv] hg hv hbx hge rfl⟩
      | 13, _ =>
        refine StepAt.of (need := [8]) (later := []) (k := 6) (d := some 5) rfl rfl (by kernel_rfl) (by kernel_rfl) ?_
        intro L T wq ev a he hL hN hM hJ next hnext
        have e14 := he.tmp 14
        go_simp
        exact hnext _ _ ⟨hJ.1, hJ.2.1, hJ.2.2.1, hJ.2.2.2.1, hJ.2.2.2.2.1, hJ.2.2.2.2.2.1, hJ.2.2.2.2.2.2.1, hJ.2.2.2.2.2.2.2.1, hJ.2.2.2.2.2.2.2.2.1, hJ.2.2.2.2.2.2.2.2.2.1, hJ.2.2.2.2.2.2.2.2.2.2.1, fun _ => hJ.2.2.2.2.2.2.2.2.2.2.1 (hN.1), hJ.2.2.2.2.2.2.2.2.2.2.2.2.1, hJ.2.2.2.2.2.2.2.2.2.2.2.2.2.1, hJ.2.2.2.2.2.2.2.2.2.2.2.2.2.2.1, hJ.2.2.2.2.2.2.2.2.2.2.2.2.2.2.2.1, hJ.2.2.2.2.2.2.2.2.2.2.2.2.2.2.2.2.1, hJ.2.2.2.2.2.2.2.2.2.2.2.2.2.2.2.2.2.1, hJ.2.2.2.2.2.2.2.2.2.2.2.2.2.2.2.2.2.2⟩
      | k + 14, hi => exact absurd hi (Nat.not_lt.2 (Nat.le_add_left 14 k))
    · intro L a wq hA hJ hs hd hf
      obtain ⟨ga, cs0, hp0, hge0, hv0, hb0⟩ := hJ.2.2.2.2.2.2.2.2.2.2.2.2.2.2.2.2.2.1 (hA.2.2.2.2.2.2.2.2.2.2.2.1)
      have i0 := hJ.2.2.2.2.2.2.2.2.1 (hA.2.2.2.2.2.2.1)
      obtain ⟨s2, m2, n2, c2, hq0, i0⟩ := i0.cells
      rw [hq0, Value.agg.injEq] at hv0
      have hl0 : cs0 = _ := congrArg Array.toList hv0.symm
      subst hl0
      obtain ⟨gb, cs1, hp1, hge1, hv1, hb1⟩ := hJ.2.2.2.2.2.2.2.2.2.2.2.2.2.2.2.2.2.2 (hA.2.2.2.2.2.2.2.2.2.2.2.2.1)
      have i1 := hJ.2.2.2.2.2.2.2.2.2.1 (hA.2.2.2.2.2.2.2.1)
      obtain ⟨s3, m3, n3, c3, hq1, i1⟩ := i1.cells
      rw [hq1, Value.agg.injEq] at hv1
      have hl1 : cs1 = _ := congrArg Array.toList hv1.symm
      subst hl1
      have hne0_1 : ga ≠ gb := fun e => hJ.2.2.2.2.2.2.2.2.2.2.2.2.2.2.2.2.1 (hA.2.2.2.2.2.2.2.2.2.1) (hA.2.2.2.2.2.2.2.2.2.2.1) (hp0.trans (e ▸ hp1.symm))
      refine (by assumption : ∀ a' w', Met _ a' w' → _) _ _ (Met.intro ((by assumption : ∀ a' w', _ → _) _ _ ?_))
      exact ⟨a.tmps.getD 3 undef, a.tmps.getD 4 undef, a.tmps.getD 5 undef, a.tmps.getD 6 undef, a.tmps.getD 7 undef, a.tmps.getD 8 undef, a.tmps.getD 9 undef, a.tmps.getD 10 undef, a.tmps.getD 11 undef, a.tmps.getD 12 undef, a.tmps.getD 13 undef, a.tmps.getD 14 undef, a.tmps.getD 15 undef, ⟨ga, s2, m2, n2, c2, gb, s3, m3, n3, c3, hp0, hge0, hb0, i0, hp1, hge1, hb1, i1, hne0_1, hJ.1⟩, act_eq _ _ [3, 4, 5, 6, 7, 8, 9, 10, 11, 12, 13, 14, 15] hf (by kernel_rfl) (hs.trans (by kernel_rfl)) hd (by kernel_rfl)⟩
  case rest =>
  obtain ⟨ga, s2, m2, n2, c2, gb, s3, m3, n3, c3, rfl, hge0, hbx0, hi0, rfl, hge1, hbx1, hi1, hne0_1, hb⟩ := hcut
  have LTS1 := hide (And.intro (And.intro (Nat.lt_of_lt_of_le P0.out.lt hge0) ((Nat.lt_of_lt_of_le P1.out.lt hge0))) (And.intro (And.intro (Nat.lt_of_lt_of_le P0.out.lt hge1) ((Nat.lt_of_lt_of_le P1.out.lt hge1))) (hne0_1)))
  replace I1 := hide (I1.out.below (hb))
  replace P0 := hide (P0.out.step (hb))
  replace P1 := hide (P1.out.step (hb))
  replace HB := hide (HB.out.trans ((hb).mono HB.out.size))
  have Va := hide hbx0
  have TQ := hide hi0
  have Vb := hide hbx1
  have TM := hide hi1
  clear hb hge0 hbx0 hi0 hge1 hbx1 hi1 hne0_1
  generalize hwc : wc = wc1 at *
  clear hwc
  have hVa0 := Va.out.cell0
  have hVa1 := Va.out.cell1
  have hP10 := P1.out.cell0
  have hP11 := P1.out.cell1
  have fP10 := P1.out.free 0
  have fP11 := P1.out.free 1
  go_wp2
  refine ret_int rfl (w.heap.size + 1) _ _ _ _ rfl (P1.out.put _ _) rfl ?_
  exact ⟨_, rfl, by rw [Rat.floor_def]; exact TQ.out.keep (P1.out.keeps (by simp) (by simp) _ _), below_put HB.out (by omega) _ _⟩
end Go.Proofs.Ytgkibmigbjjnnaa
