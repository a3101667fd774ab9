/- ratio.Rat's Mul. -/
import Derived.Test.YtgkibmigbjjnnaaRLow
import Derived.Test.YtgkibmigbjjnnaaPtrC
import Derived.Deep.Cut
namespace Go.Proofs.Ytgkibmigbjjnnaa
open Go.RowKit

set_option maxRecDepth 100000 in
set_option maxHeartbeats 8000000 in
theorem rtmul_any (v1 v2 : Value) (x y : Rat) (w : World) (h1 : RatAt w v1 x) (h2 : RatAt w v2 y) (hx : SzR 100000000 x) (hy : SzR 100000000 y) :
    Calls Try.prog 18 #[v1, v2] w fun e w' => ∃ v', e = .returned v' ∧ RatAt w' v' (x * y) ∧ Below w.heap.size w w' := by
  have zx : (x.den : Int) ≠ 0 := by have := x.den_nz; omega
  have zy : (y.den : Int) ≠ 0 := by have := y.den_nz; omega
  have DA := hide (SzR.divInt zy hx.num hy.den)
  have DB := hide (SzR.divInt zx hy.num hx.den)
  have ZX := hide zx
  have ZY := hide zy
  have HX := hide hx
  have HY := hide hy
  clear zx zy hx hy
  obtain ⟨s1, m1, n1, c1, t1, o1, p1, d1, rfl, i1⟩ := h1.cells
  have I1 := hide i1
  clear h1 i1
  obtain ⟨s2, m2, n2, c2, t2, o2, p2, d2, rfl, i2⟩ := h2.cells
  have I2 := hide i2
  clear h2 i2
  have P0 := Box4.new w (.bool s1) (.slice m1 n1 c1) (.bool t1) (.slice o1 p1 d1)
  replace P0 := P0.step (below_alloc _ (.cells #[.bool s2, .slice m2 n2 c2, .bool t2, .slice o2 p2 d2] 27))
  replace P0 := P0.step (below_alloc _ (.cells #[.bool false, .slice none 0 0, .bool false, .slice none 0 0] 27))
  replace P0 := hide P0
  have P1 := Box4.new (w.alloc (.cells #[.bool s1, .slice m1 n1 c1, .bool t1, .slice o1 p1 d1] 27)) (.bool s2) (.slice m2 n2 c2) (.bool t2) (.slice o2 p2 d2)
  simp only [World.size_alloc] at P1
  replace P1 := P1.step (below_alloc _ (.cells #[.bool false, .slice none 0 0, .bool false, .slice none 0 0] 27))
  replace P1 := hide P1
  have P2 := Box4.new ((w.alloc (.cells #[.bool s1, .slice m1 n1 c1, .bool t1, .slice o1 p1 d1] 27)).alloc (.cells #[.bool s2, .slice m2 n2 c2, .bool t2, .slice o2 p2 d2] 27)) (.bool false) (.slice none 0 0) (.bool false) (.slice none 0 0)
  simp only [World.size_alloc] at P2
  replace P2 := hide P2
  have HB := below_alloc w (.cells #[.bool s1, .slice m1 n1 c1, .bool t1, .slice o1 p1 d1] 27)
  replace HB := HB.trans ((below_alloc _ (.cells #[.bool s2, .slice m2 n2 c2, .bool t2, .slice o2 p2 d2] 27)).mono (by simp only [World.size_alloc]; omega))
  replace HB := HB.trans ((below_alloc _ (.cells #[.bool false, .slice none 0 0, .bool false, .slice none 0 0] 27)).mono (by simp only [World.size_alloc]; omega))
  replace I1 := hide (I1.out.below HB)
  replace I2 := hide (I2.out.below HB)
  replace HB := hide HB
  go_enter Try.func18, Try.ntmps18
  go_wp2_with fail
  generalize (((w.alloc (.cells #[.bool s1, .slice m1 n1 c1, .bool t1, .slice o1 p1 d1] 27)).alloc (.cells #[.bool s2, .slice m2 n2 c2, .bool t2, .slice o2 p2 d2] 27)).alloc (.cells #[.bool false, .slice none 0 0, .bool false, .slice none 0 0] 27)) = w0 at *
  go_cut [5, 6] from 7 (fun pt0 pt1 wx => ∃ ga s3 m3 n3 c3 t3 o3 p3 d3 gb s4 m4 n4 c4 t4 o4 p4 d4, pt0 = .pointer (some ⟨ga, 0, none⟩) ∧ w0.heap.size ≤ ga ∧ Box4 wx ga (.bool s3) (.slice m3 n3 c3) (.bool t3) (.slice o3 p3 d3) ∧ RatAt wx (.agg #[.bool s3, .slice m3 n3 c3, .bool t3, .slice o3 p3 d3]) (Rat.divInt x.num (y.den : Int)) ∧ pt1 = .pointer (some ⟨gb, 0, none⟩) ∧ w0.heap.size ≤ gb ∧ Box4 wx gb (.bool s4) (.slice m4 n4 c4) (.bool t4) (.slice o4 p4 d4) ∧ RatAt wx (.agg #[.bool s4, .slice m4 n4 c4, .bool t4, .slice o4 p4 d4]) (Rat.divInt y.num (x.den : Int)) ∧ ga ≠ gb ∧ Below w0.heap.size w0 wx)
  case first =>
    refine wp_facts (fun L T wq => Below w0.heap.size w0 wq ∧ T 2 = .pointer (some ⟨w.heap.size, 0, none⟩) ∧ T 3 = .pointer (some ⟨(w.heap.size + 1), 0, none⟩) ∧ (L 0 = true → T 7 = .pointer (some ⟨w.heap.size, 0, none⟩)) ∧ (L 1 = true → T 8 = .agg #[.bool s1, .slice m1 n1 c1]) ∧ (L 2 = true → T 9 = .agg #[.bool s2, .slice m2 n2 c2, .bool t2, .slice o2 p2 d2]) ∧ (L 5 = true → T 12 = .pointer (some ⟨(w.heap.size + 1), 0, none⟩)) ∧ (L 6 = true → T 13 = .agg #[.bool s2, .slice m2 n2 c2]) ∧ (L 7 = true → T 14 = .agg #[.bool s1, .slice m1 n1 c1, .bool t1, .slice o1 p1 d1]) ∧ (L 3 = true → IntAt wq (T 10) (y.den : Int)) ∧ (L 4 = true → RatAt wq (T 11) (Rat.divInt x.num (y.den : Int))) ∧ (L 8 = true → IntAt wq (T 15) (x.den : Int)) ∧ (L 9 = true → RatAt wq (T 16) (Rat.divInt y.num (x.den : Int))) ∧ (L 10 = true → PS w0.heap.size wq (T 5)) ∧ (L 10 = true → L 12 = false → PB w0.heap.size wq 27 (T 5) [.bool false, .slice none 0 0, .bool false, .slice none 0 0]) ∧ (L 11 = true → PS w0.heap.size wq (T 6)) ∧ (L 11 = true → L 13 = false → PB w0.heap.size wq 27 (T 6) [.bool false, .slice none 0 0, .bool false, .slice none 0 0]) ∧ (L 10 = true → L 11 = true → T 5 ≠ T 6) ∧ (L 12 = true → PV w0.heap.size wq 27 (T 5) (T 11)) ∧ (L 13 = true → PV w0.heap.size wq 27 (T 6) (T 16))) 28 [5, 6, 7, 8, 9, 10, 11, 12, 13, 14, 15, 16] [0, 1, 2, 3, 4, 5, 6, 7, 8, 9, 10, 11, 12, 13] (by kernel_rfl) (by kernel_rfl) (by kernel_rfl) (by kernel_rfl) ?_ ?_ ?_
    · exact ⟨(Below.refl w0.heap.size w0).drew, rfl, rfl, no_yet, no_yet, no_yet, no_yet, no_yet, no_yet, no_yet, no_yet, no_yet, no_yet, no_yet, no_yet, no_yet, no_yet, no_yet, no_yet, no_yet⟩
    · intro i hi
      match i, hi with
      | 0, _ =>
        refine StepAt.of (need := []) (later := []) (k := 6) (d := some 7) rfl rfl (by kernel_rfl) (by kernel_rfl) ?_
        intro L T wq ev a he hL hN hM hJ next hnext
        have e2 := (he.tmp 2).trans hJ.2.1
        go_simp
        exact hnext _ _ ⟨hJ.1, hJ.2.1, hJ.2.2.1, fun _ => rfl, hJ.2.2.2.2.1, hJ.2.2.2.2.2.1, hJ.2.2.2.2.2.2.1, hJ.2.2.2.2.2.2.2.1, hJ.2.2.2.2.2.2.2.2.1, hJ.2.2.2.2.2.2.2.2.2.1, hJ.2.2.2.2.2.2.2.2.2.2.1, hJ.2.2.2.2.2.2.2.2.2.2.2.1, hJ.2.2.2.2.2.2.2.2.2.2.2.2.1, hJ.2.2.2.2.2.2.2.2.2.2.2.2.2.1, hJ.2.2.2.2.2.2.2.2.2.2.2.2.2.2.1, hJ.2.2.2.2.2.2.2.2.2.2.2.2.2.2.2.1, hJ.2.2.2.2.2.2.2.2.2.2.2.2.2.2.2.2.1, hJ.2.2.2.2.2.2.2.2.2.2.2.2.2.2.2.2.2.1, hJ.2.2.2.2.2.2.2.2.2.2.2.2.2.2.2.2.2.2.1, hJ.2.2.2.2.2.2.2.2.2.2.2.2.2.2.2.2.2.2.2⟩
      | 1, _ =>
        refine StepAt.of (need := [0]) (later := []) (k := 6) (d := some 8) rfl rfl (by kernel_rfl) (by kernel_rfl) ?_
        intro L T wq ev a he hL hN hM hJ next hnext
        have e7 := (he.tmp 7).trans (hJ.2.2.2.1 (hN.1))
        have hcl0 := ((P0.out).step hJ.1).cell0
        have hcl1 := ((P0.out).step hJ.1).cell1
        go_simp
        exact hnext _ _ ⟨hJ.1, hJ.2.1, hJ.2.2.1, hJ.2.2.2.1, fun _ => rfl, hJ.2.2.2.2.2.1, hJ.2.2.2.2.2.2.1, hJ.2.2.2.2.2.2.2.1, hJ.2.2.2.2.2.2.2.2.1, hJ.2.2.2.2.2.2.2.2.2.1, hJ.2.2.2.2.2.2.2.2.2.2.1, hJ.2.2.2.2.2.2.2.2.2.2.2.1, hJ.2.2.2.2.2.2.2.2.2.2.2.2.1, hJ.2.2.2.2.2.2.2.2.2.2.2.2.2.1, hJ.2.2.2.2.2.2.2.2.2.2.2.2.2.2.1, hJ.2.2.2.2.2.2.2.2.2.2.2.2.2.2.2.1, hJ.2.2.2.2.2.2.2.2.2.2.2.2.2.2.2.2.1, hJ.2.2.2.2.2.2.2.2.2.2.2.2.2.2.2.2.2.1, hJ.2.2.2.2.2.2.2.2.2.2.2.2.2.2.2.2.2.2.1, hJ.2.2.2.2.2.2.2.2.2.2.2.2.2.2.2.2.2.2.2⟩
      | 2, _ =>
        refine StepAt.of (need := []) (later := []) (k := 6) (d := some 9) rfl rfl (by kernel_rfl) (by kernel_rfl) ?_
        intro L T wq ev a he hL hN hM hJ next hnext
        have e3 := (he.tmp 3).trans hJ.2.2.1
        have hcl0 := ((P1.out).step hJ.1).cell0
        have hcl1 := ((P1.out).step hJ.1).cell1
        have hcl2 := ((P1.out).step hJ.1).cell2
        have hcl3 := ((P1.out).step hJ.1).cell3
        go_simp
        exact hnext _ _ ⟨hJ.1, hJ.2.1, hJ.2.2.1, hJ.2.2.2.1, hJ.2.2.2.2.1, fun _ => rfl, hJ.2.2.2.2.2.2.1, hJ.2.2.2.2.2.2.2.1, hJ.2.2.2.2.2.2.2.2.1, hJ.2.2.2.2.2.2.2.2.2.1, hJ.2.2.2.2.2.2.2.2.2.2.1, hJ.2.2.2.2.2.2.2.2.2.2.2.1, hJ.2.2.2.2.2.2.2.2.2.2.2.2.1, hJ.2.2.2.2.2.2.2.2.2.2.2.2.2.1, hJ.2.2.2.2.2.2.2.2.2.2.2.2.2.2.1, hJ.2.2.2.2.2.2.2.2.2.2.2.2.2.2.2.1, hJ.2.2.2.2.2.2.2.2.2.2.2.2.2.2.2.2.1, hJ.2.2.2.2.2.2.2.2.2.2.2.2.2.2.2.2.2.1, hJ.2.2.2.2.2.2.2.2.2.2.2.2.2.2.2.2.2.2.1, hJ.2.2.2.2.2.2.2.2.2.2.2.2.2.2.2.2.2.2.2⟩
      | 3, _ =>
        refine StepAt.of (need := [2]) (later := []) (k := 6) (d := some 10) rfl rfl (by kernel_rfl) (by kernel_rfl) ?_
        intro L T wq ev a he hL hN hM hJ next hnext
        have e9 := (he.tmp 9).trans (hJ.2.2.2.2.2.1 (hN.1))
        have ef := he.func
        go_simp
        refine (den_any _ y _ (I2.out.below hJ.1)).mono ?_
        rintro e wq' ⟨v, rfl, i, hb⟩
        exact hnext _ _ ⟨hJ.1.trans ((hb).mono hJ.1.size), hJ.2.1, hJ.2.2.1, hJ.2.2.2.1, hJ.2.2.2.2.1, hJ.2.2.2.2.2.1, hJ.2.2.2.2.2.2.1, hJ.2.2.2.2.2.2.2.1, hJ.2.2.2.2.2.2.2.2.1, fun _ => i, fun h => (hJ.2.2.2.2.2.2.2.2.2.2.1 h).below (hb), fun h => (hJ.2.2.2.2.2.2.2.2.2.2.2.1 h).below (hb), fun h => (hJ.2.2.2.2.2.2.2.2.2.2.2.2.1 h).below (hb), fun h => (hJ.2.2.2.2.2.2.2.2.2.2.2.2.2.1 h).step (hb), fun h h' => (hJ.2.2.2.2.2.2.2.2.2.2.2.2.2.2.1 h h').step (hb), fun h => (hJ.2.2.2.2.2.2.2.2.2.2.2.2.2.2.2.1 h).step (hb), fun h h' => (hJ.2.2.2.2.2.2.2.2.2.2.2.2.2.2.2.2.1 h h').step (hb), hJ.2.2.2.2.2.2.2.2.2.2.2.2.2.2.2.2.2.1, fun h => (hJ.2.2.2.2.2.2.2.2.2.2.2.2.2.2.2.2.2.2.1 h).step (hb), fun h => (hJ.2.2.2.2.2.2.2.2.2.2.2.2.2.2.2.2.2.2.2 h).step (hb)⟩
      | 4, _ =>
        refine StepAt.of (need := [1, 3]) (later := [12]) (k := 6) (d := some 11) rfl rfl (by kernel_rfl) (by kernel_rfl) ?_
        intro L T wq ev a he hL hN hM hJ next hnext
        have e8 := (he.tmp 8).trans (hJ.2.2.2.2.1 (hN.1))
        have e10 := he.tmp 10
        have ef := he.func
        go_simp
        refine (lowest_any _ _ x.num (y.den : Int) _ (I1.out.below hJ.1).num (hJ.2.2.2.2.2.2.2.2.2.1 (hN.2.1)) (SzI.len HX.out.num (by decide)) (SzI.len HY.out.den (by decide)) ZY.out).mono ?_
        rintro e wq' ⟨v, rfl, i, hb⟩
        exact hnext _ _ ⟨hJ.1.trans ((hb).mono hJ.1.size), hJ.2.1, hJ.2.2.1, hJ.2.2.2.1, hJ.2.2.2.2.1, hJ.2.2.2.2.2.1, hJ.2.2.2.2.2.2.1, hJ.2.2.2.2.2.2.2.1, hJ.2.2.2.2.2.2.2.2.1, fun h => (hJ.2.2.2.2.2.2.2.2.2.1 h).below (hb), fun _ => i, fun h => (hJ.2.2.2.2.2.2.2.2.2.2.2.1 h).below (hb), fun h => (hJ.2.2.2.2.2.2.2.2.2.2.2.2.1 h).below (hb), fun h => (hJ.2.2.2.2.2.2.2.2.2.2.2.2.2.1 h).step (hb), fun h h' => (hJ.2.2.2.2.2.2.2.2.2.2.2.2.2.2.1 h h').step (hb), fun h => (hJ.2.2.2.2.2.2.2.2.2.2.2.2.2.2.2.1 h).step (hb), fun h h' => (hJ.2.2.2.2.2.2.2.2.2.2.2.2.2.2.2.2.1 h h').step (hb), hJ.2.2.2.2.2.2.2.2.2.2.2.2.2.2.2.2.2.1, fun h => clash (hM.1) h, fun h => (hJ.2.2.2.2.2.2.2.2.2.2.2.2.2.2.2.2.2.2.2 h).step (hb)⟩
      | 5, _ =>
        refine StepAt.of (need := []) (later := []) (k := 6) (d := some 12) rfl rfl (by kernel_rfl) (by kernel_rfl) ?_
        intro L T wq ev a he hL hN hM hJ next hnext
        have e3 := (he.tmp 3).trans hJ.2.2.1
        go_simp
        exact hnext _ _ ⟨hJ.1, hJ.2.1, hJ.2.2.1, hJ.2.2.2.1, hJ.2.2.2.2.1, hJ.2.2.2.2.2.1, fun _ => rfl, hJ.2.2.2.2.2.2.2.1, hJ.2.2.2.2.2.2.2.2.1, hJ.2.2.2.2.2.2.2.2.2.1, hJ.2.2.2.2.2.2.2.2.2.2.1, hJ.2.2.2.2.2.2.2.2.2.2.2.1, hJ.2.2.2.2.2.2.2.2.2.2.2.2.1, hJ.2.2.2.2.2.2.2.2.2.2.2.2.2.1, hJ.2.2.2.2.2.2.2.2.2.2.2.2.2.2.1, hJ.2.2.2.2.2.2.2.2.2.2.2.2.2.2.2.1, hJ.2.2.2.2.2.2.2.2.2.2.2.2.2.2.2.2.1, hJ.2.2.2.2.2.2.2.2.2.2.2.2.2.2.2.2.2.1, hJ.2.2.2.2.2.2.2.2.2.2.2.2.2.2.2.2.2.2.1, hJ.2.2.2.2.2.2.2.2.2.2.2.2.2.2.2.2.2.2.2⟩
      | 6, _ =>
        refine StepAt.of (need := [5]) (later := []) (k := 6) (d := some 13) rfl rfl (by kernel_rfl) (by kernel_rfl) ?_
        intro L T wq ev a he hL hN hM hJ next hnext
        have e12 := (he.tmp 12).trans (hJ.2.2.2.2.2.2.1 (hN.1))
        have hcl0 := ((P1.out).step hJ.1).cell0
        have hcl1 := ((P1.out).step hJ.1).cell1
        go_simp
        exact hnext _ _ ⟨hJ.1, hJ.2.1, hJ.2.2.1, hJ.2.2.2.1, hJ.2.2.2.2.1, hJ.2.2.2.2.2.1, hJ.2.2.2.2.2.2.1, fun _ => rfl, hJ.2.2.2.2.2.2.2.2.1, hJ.2.2.2.2.2.2.2.2.2.1, hJ.2.2.2.2.2.2.2.2.2.2.1, hJ.2.2.2.2.2.2.2.2.2.2.2.1, hJ.2.2.2.2.2.2.2.2.2.2.2.2.1, hJ.2.2.2.2.2.2.2.2.2.2.2.2.2.1, hJ.2.2.2.2.2.2.2.2.2.2.2.2.2.2.1, hJ.2.2.2.2.2.2.2.2.2.2.2.2.2.2.2.1, hJ.2.2.2.2.2.2.2.2.2.2.2.2.2.2.2.2.1, hJ.2.2.2.2.2.2.2.2.2.2.2.2.2.2.2.2.2.1, hJ.2.2.2.2.2.2.2.2.2.2.2.2.2.2.2.2.2.2.1, hJ.2.2.2.2.2.2.2.2.2.2.2.2.2.2.2.2.2.2.2⟩
      | 7, _ =>
        refine StepAt.of (need := []) (later := []) (k := 6) (d := some 14) rfl rfl (by kernel_rfl) (by kernel_rfl) ?_
        intro L T wq ev a he hL hN hM hJ next hnext
        have e2 := (he.tmp 2).trans hJ.2.1
        have hcl0 := ((P0.out).step hJ.1).cell0
        have hcl1 := ((P0.out).step hJ.1).cell1
        have hcl2 := ((P0.out).step hJ.1).cell2
        have hcl3 := ((P0.out).step hJ.1).cell3
        go_simp
        exact hnext _ _ ⟨hJ.1, hJ.2.1, hJ.2.2.1, hJ.2.2.2.1, hJ.2.2.2.2.1, hJ.2.2.2.2.2.1, hJ.2.2.2.2.2.2.1, hJ.2.2.2.2.2.2.2.1, fun _ => rfl, hJ.2.2.2.2.2.2.2.2.2.1, hJ.2.2.2.2.2.2.2.2.2.2.1, hJ.2.2.2.2.2.2.2.2.2.2.2.1, hJ.2.2.2.2.2.2.2.2.2.2.2.2.1, hJ.2.2.2.2.2.2.2.2.2.2.2.2.2.1, hJ.2.2.2.2.2.2.2.2.2.2.2.2.2.2.1, hJ.2.2.2.2.2.2.2.2.2.2.2.2.2.2.2.1, hJ.2.2.2.2.2.2.2.2.2.2.2.2.2.2.2.2.1, hJ.2.2.2.2.2.2.2.2.2.2.2.2.2.2.2.2.2.1, hJ.2.2.2.2.2.2.2.2.2.2.2.2.2.2.2.2.2.2.1, hJ.2.2.2.2.2.2.2.2.2.2.2.2.2.2.2.2.2.2.2⟩
      | 8, _ =>
        refine StepAt.of (need := [7]) (later := []) (k := 6) (d := some 15) rfl rfl (by kernel_rfl) (by kernel_rfl) ?_
        intro L T wq ev a he hL hN hM hJ next hnext
        have e14 := (he.tmp 14).trans (hJ.2.2.2.2.2.2.2.2.1 (hN.1))
        have ef := he.func
        go_simp
        refine (den_any _ x _ (I1.out.below hJ.1)).mono ?_
        rintro e wq' ⟨v, rfl, i, hb⟩
        exact hnext _ _ ⟨hJ.1.trans ((hb).mono hJ.1.size), hJ.2.1, hJ.2.2.1, hJ.2.2.2.1, hJ.2.2.2.2.1, hJ.2.2.2.2.2.1, hJ.2.2.2.2.2.2.1, hJ.2.2.2.2.2.2.2.1, hJ.2.2.2.2.2.2.2.2.1, fun h => (hJ.2.2.2.2.2.2.2.2.2.1 h).below (hb), fun h => (hJ.2.2.2.2.2.2.2.2.2.2.1 h).below (hb), fun _ => i, fun h => (hJ.2.2.2.2.2.2.2.2.2.2.2.2.1 h).below (hb), fun h => (hJ.2.2.2.2.2.2.2.2.2.2.2.2.2.1 h).step (hb), fun h h' => (hJ.2.2.2.2.2.2.2.2.2.2.2.2.2.2.1 h h').step (hb), fun h => (hJ.2.2.2.2.2.2.2.2.2.2.2.2.2.2.2.1 h).step (hb), fun h h' => (hJ.2.2.2.2.2.2.2.2.2.2.2.2.2.2.2.2.1 h h').step (hb), hJ.2.2.2.2.2.2.2.2.2.2.2.2.2.2.2.2.2.1, fun h => (hJ.2.2.2.2.2.2.2.2.2.2.2.2.2.2.2.2.2.2.1 h).step (hb), fun h => (hJ.2.2.2.2.2.2.2.2.2.2.2.2.2.2.2.2.2.2.2 h).step (hb)⟩
      | 9, _ =>
        refine StepAt.of (need := [6, 8]) (later := [13]) (k := 6) (d := some 16) rfl rfl (by kernel_rfl) (by kernel_rfl) ?_
        intro L T wq ev a he hL hN hM hJ next hnext
        have e13 := (he.tmp 13).trans (hJ.2.2.2.2.2.2.2.1 (hN.1))
        have e15 := he.tmp 15
        have ef := he.func
        go_simp
        refine (lowest_any _ _ y.num (x.den : Int) _ (I2.out.below hJ.1).num (hJ.2.2.2.2.2.2.2.2.2.2.2.1 (hN.2.1)) (SzI.len HY.out.num (by decide)) (SzI.len HX.out.den (by decide)) ZX.out).mono ?_
        rintro e wq' ⟨v, rfl, i, hb⟩
        exact hnext _ _ ⟨hJ.1.trans ((hb).mono hJ.1.size), hJ.2.1, hJ.2.2.1, hJ.2.2.2.1, hJ.2.2.2.2.1, hJ.2.2.2.2.2.1, hJ.2.2.2.2.2.2.1, hJ.2.2.2.2.2.2.2.1, hJ.2.2.2.2.2.2.2.2.1, fun h => (hJ.2.2.2.2.2.2.2.2.2.1 h).below (hb), fun h => (hJ.2.2.2.2.2.2.2.2.2.2.1 h).below (hb), fun h => (hJ.2.2.2.2.2.2.2.2.2.2.2.1 h).below (hb), fun _ => i, fun h => (hJ.2.2.2.2.2.2.2.2.2.2.2.2.2.1 h).step (hb), fun h h' => (hJ.2.2.2.2.2.2.2.2.2.2.2.2.2.2.1 h h').step (hb), fun h => (hJ.2.2.2.2.2.2.2.2.2.2.2.2.2.2.2.1 h).step (hb), fun h h' => (hJ.2.2.2.2.2.2.2.2.2.2.2.2.2.2.2.2.1 h h').step (hb), hJ.2.2.2.2.2.2.2.2.2.2.2.2.2.2.2.2.2.1, fun h => (hJ.2.2.2.2.2.2.2.2.2.2.2.2.2.2.2.2.2.2.1 h).step (hb), fun h => clash (hM.1) h⟩
      | 10, _ =>
        refine StepAt.of (need := []) (later := [12]) (k := 6) (d := some 5) rfl rfl (by kernel_rfl) (by kernel_rfl) ?_
        intro L T wq ev a he hL hN hM hJ next hnext
        go_simp
        have hb := below_alloc wq (.cells #[.bool false, .slice none 0 0, .bool false, .slice none 0 0] 27)
        exact hnext _ _ ⟨hJ.1.trans ((hb).mono hJ.1.size), hJ.2.1, hJ.2.2.1, hJ.2.2.2.1, hJ.2.2.2.2.1, hJ.2.2.2.2.2.1, hJ.2.2.2.2.2.2.1, hJ.2.2.2.2.2.2.2.1, hJ.2.2.2.2.2.2.2.2.1, fun h => (hJ.2.2.2.2.2.2.2.2.2.1 h).below (hb), fun h => (hJ.2.2.2.2.2.2.2.2.2.2.1 h).below (hb), fun h => (hJ.2.2.2.2.2.2.2.2.2.2.2.1 h).below (hb), fun h => (hJ.2.2.2.2.2.2.2.2.2.2.2.2.1 h).below (hb), fun _ => PS.new hJ.1.size _, fun _ _ => PB.new hJ.1.size _ [.bool false, .slice none 0 0, .bool false, .slice none 0 0], fun h => (hJ.2.2.2.2.2.2.2.2.2.2.2.2.2.2.2.1 h).step (hb), fun h h' => (hJ.2.2.2.2.2.2.2.2.2.2.2.2.2.2.2.2.1 h h').step (hb), fun _ h => Ne.symm (hJ.2.2.2.2.2.2.2.2.2.2.2.2.2.2.2.1 h).ne, fun h => clash (hM.1) h, fun h => (hJ.2.2.2.2.2.2.2.2.2.2.2.2.2.2.2.2.2.2.2 h).step (hb)⟩
      | 11, _ =>
        refine StepAt.of (need := []) (later := [13]) (k := 6) (d := some 6) rfl rfl (by kernel_rfl) (by kernel_rfl) ?_
        intro L T wq ev a he hL hN hM hJ next hnext
        go_simp
        have hb := below_alloc wq (.cells #[.bool false, .slice none 0 0, .bool false, .slice none 0 0] 27)
        exact hnext _ _ ⟨hJ.1.trans ((hb).mono hJ.1.size), hJ.2.1, hJ.2.2.1, hJ.2.2.2.1, hJ.2.2.2.2.1, hJ.2.2.2.2.2.1, hJ.2.2.2.2.2.2.1, hJ.2.2.2.2.2.2.2.1, hJ.2.2.2.2.2.2.2.2.1, fun h => (hJ.2.2.2.2.2.2.2.2.2.1 h).below (hb), fun h => (hJ.2.2.2.2.2.2.2.2.2.2.1 h).below (hb), fun h => (hJ.2.2.2.2.2.2.2.2.2.2.2.1 h).below (hb), fun h => (hJ.2.2.2.2.2.2.2.2.2.2.2.2.1 h).below (hb), fun h => (hJ.2.2.2.2.2.2.2.2.2.2.2.2.2.1 h).step (hb), fun h h' => (hJ.2.2.2.2.2.2.2.2.2.2.2.2.2.2.1 h h').step (hb), fun _ => PS.new hJ.1.size _, fun _ _ => PB.new hJ.1.size _ [.bool false, .slice none 0 0, .bool false, .slice none 0 0], fun h _ => (hJ.2.2.2.2.2.2.2.2.2.2.2.2.2.1 h).ne, fun h => (hJ.2.2.2.2.2.2.2.2.2.2.2.2.2.2.2.2.2.2.1 h).step (hb), fun h => clash (hM.1) h⟩
      | 12, _ =>
        refine StepAt.of (need := [10, 4, 11]) (later := []) (k := 6) (d := none) rfl rfl (by kernel_rfl) (by kernel_rfl) ?_
        intro L T wq ev a he hL hN hM hJ next hnext
        obtain ⟨g, hg, hge, hbx⟩ := hJ.2.2.2.2.2.2.2.2.2.2.2.2.2.2.1 (hN.1) hL
        obtain ⟨sv, mv, nv, cv, sv', mv', nv', cv', hv, iv⟩ := (hJ.2.2.2.2.2.2.2.2.2.2.1 (hN.2.1)).cells
        have e5 := (he.tmp 5).trans hg
        have e11 := (he.tmp 11).trans hv
        have hc0 := hbx.cell 0 rfl
        have hf0 := hbx.free 0
        have hc1 := hbx.cell 1 rfl
        have hf1 := hbx.free 1
        have hc2 := hbx.cell 2 rfl
        have hf2 := hbx.free 2
        have hc3 := hbx.cell 3 rfl
        have hf3 := hbx.free 3
        have hk := keeps_all hbx (by intro c hc z e; subst e; simp at hc) [.bool sv, .slice mv nv cv, .bool sv', .slice mv' nv' cv'] rfl
        go_simp
        exact hnext undef _ ⟨below_all hge [.bool sv, .slice mv nv cv, .bool sv', .slice mv' nv' cv'] 0 _ hJ.1, hJ.2.1, hJ.2.2.1, hJ.2.2.2.1, hJ.2.2.2.2.1, hJ.2.2.2.2.2.1, hJ.2.2.2.2.2.2.1, hJ.2.2.2.2.2.2.2.1, hJ.2.2.2.2.2.2.2.2.1, fun h => (hJ.2.2.2.2.2.2.2.2.2.1 h).keep hk, fun h => (hJ.2.2.2.2.2.2.2.2.2.2.1 h).keep hk, fun h => (hJ.2.2.2.2.2.2.2.2.2.2.2.1 h).keep hk, fun h => (hJ.2.2.2.2.2.2.2.2.2.2.2.2.1 h).keep hk, fun h => (hJ.2.2.2.2.2.2.2.2.2.2.2.2.2.1 h).put [.bool sv, .slice mv nv cv, .bool sv', .slice mv' nv' cv'], fun _ h => no_more h, fun h => (hJ.2.2.2.2.2.2.2.2.2.2.2.2.2.2.2.1 h).put [.bool sv, .slice mv nv cv, .bool sv', .slice mv' nv' cv'], fun h h' => (hJ.2.2.2.2.2.2.2.2.2.2.2.2.2.2.2.2.1 h h').put hg (hJ.2.2.2.2.2.2.2.2.2.2.2.2.2.2.2.2.2.1 (hN.1) (hN.2.2.1)) [.bool sv, .slice mv nv cv, .bool sv', .slice mv' nv' cv'], hJ.2.2.2.2.2.2.2.2.2.2.2.2.2.2.2.2.2.1, fun _ => PV.set' [.bool sv, .slice mv nv cv, .bool sv', .slice mv' nv' cv'] hg hv hbx hge rfl, fun h => (hJ.2.2.2.2.2.2.2.2.2.2.2.2.2.2.2.2.2.2.2 h).put hg (hJ.2.2.2.2.2.2.2.2.2.2.2.2.2.2.2.2.2.1 (hN.1) (hN.2.2.1)) [.bool sv, .slice mv nv cv, .bool sv', .slice mv' nv' cv']⟩
      | 13, _ =>
        refine StepAt.of (need := [11, 9, 10]) (later := []) (k := 6) (d := none) rfl rfl (by kernel_rfl) (by kernel_rfl) ?_
        intro L T wq ev a he hL hN hM hJ next hnext
        obtain ⟨g, hg, hge, hbx⟩ := hJ.2.2.2.2.2.2.2.2.2.2.2.2.2.2.2.2.1 (hN.1) hL
        obtain ⟨sv, mv, nv, cv, sv', mv', nv', cv', hv, iv⟩ := (hJ.2.2.2.2.2.2.2.2.2.2.2.2.1 (hN.2.1)).cells
        have e6 := (he.tmp 6).trans hg
        have e16 := (he.tmp 16).trans hv
        have hc0 := hbx.cell 0 rfl
        have hf0 := hbx.free 0
        have hc1 := hbx.cell 1 rfl
        have hf1 := hbx.free 1
        have hc2 := hbx.cell 2 rfl
        have hf2 := hbx.free 2
        have hc3 := hbx.cell 3 rfl
        have hf3 := hbx.free 3
        have hk := keeps_all hbx (by intro c hc z e; subst e; simp at hc) [.bool sv, .slice mv nv cv, .bool sv', .slice mv' nv' cv'] rfl
        go_simp
        exact hnext undef _ ⟨below_all hge [.bool sv, .slice mv nv cv, .bool sv', .slice mv' nv' cv'] 0 _ hJ.1, hJ.2.1, hJ.2.2.1, hJ.2.2.2.1, hJ.2.2.2.2.1, hJ.2.2.2.2.2.1, hJ.2.2.2.2.2.2.1, hJ.2.2.2.2.2.2.2.1, hJ.2.2.2.2.2.2.2.2.1, fun h => (hJ.2.2.2.2.2.2.2.2.2.1 h).keep hk, fun h => (hJ.2.2.2.2.2.2.2.2.2.2.1 h).keep hk, fun h => (hJ.2.2.2.2.2.2.2.2.2.2.2.1 h).keep hk, fun h => (hJ.2.2.2.2.2.2.2.2.2.2.2.2.1 h).keep hk, fun h => (hJ.2.2.2.2.2.2.2.2.2.2.2.2.2.1 h).put [.bool sv, .slice mv nv cv, .bool sv', .slice mv' nv' cv'], fun h h' => (hJ.2.2.2.2.2.2.2.2.2.2.2.2.2.2.1 h h').put hg (Ne.symm (hJ.2.2.2.2.2.2.2.2.2.2.2.2.2.2.2.2.2.1 (hN.2.2.1) (hN.1))) [.bool sv, .slice mv nv cv, .bool sv', .slice mv' nv' cv'], fun h => (hJ.2.2.2.2.2.2.2.2.2.2.2.2.2.2.2.1 h).put [.bool sv, .slice mv nv cv, .bool sv', .slice mv' nv' cv'], fun _ h => no_more h, hJ.2.2.2.2.2.2.2.2.2.2.2.2.2.2.2.2.2.1, fun h => (hJ.2.2.2.2.2.2.2.2.2.2.2.2.2.2.2.2.2.2.1 h).put hg (Ne.symm (hJ.2.2.2.2.2.2.2.2.2.2.2.2.2.2.2.2.2.1 (hN.2.2.1) (hN.1))) [.bool sv, .slice mv nv cv, .bool sv', .slice mv' nv' cv'], fun _ => PV.set' [.bool sv, .slice mv nv cv, .bool sv', .slice mv' nv' cv'] hg hv hbx hge rfl⟩
      | k + 14, hi => exact absurd hi (Nat.not_lt.2 (Nat.le_add_left 14 k))
    · intro L a wq hA hJ hs hd hf
      obtain ⟨ga, cs0, hp0, hge0, hv0, hb0⟩ := hJ.2.2.2.2.2.2.2.2.2.2.2.2.2.2.2.2.2.2.1 (hA.2.2.2.2.2.2.2.2.2.2.2.2.1)
      have i0 := hJ.2.2.2.2.2.2.2.2.2.2.1 (hA.2.2.2.2.1)
      obtain ⟨s3, m3, n3, c3, t3, o3, p3, d3, hq0, i0⟩ := i0.cells
      rw [hq0, Value.agg.injEq] at hv0
      have hl0 : cs0 = _ := congrArg Array.toList hv0.symm
      subst hl0
      obtain ⟨gb, cs1, hp1, hge1, hv1, hb1⟩ := hJ.2.2.2.2.2.2.2.2.2.2.2.2.2.2.2.2.2.2.2 (hA.2.2.2.2.2.2.2.2.2.2.2.2.2.1)
      have i1 := hJ.2.2.2.2.2.2.2.2.2.2.2.2.1 (hA.2.2.2.2.2.2.2.2.2.1)
      obtain ⟨s4, m4, n4, c4, t4, o4, p4, d4, hq1, i1⟩ := i1.cells
      rw [hq1, Value.agg.injEq] at hv1
      have hl1 : cs1 = _ := congrArg Array.toList hv1.symm
      subst hl1
      have hne0_1 : ga ≠ gb := fun e => hJ.2.2.2.2.2.2.2.2.2.2.2.2.2.2.2.2.2.1 (hA.2.2.2.2.2.2.2.2.2.2.1) (hA.2.2.2.2.2.2.2.2.2.2.2.1) (hp0.trans (e ▸ hp1.symm))
      refine (by assumption : ∀ a' w', Met _ a' w' → _) _ _ (Met.intro ((by assumption : ∀ a' w', _ → _) _ _ ?_))
      exact ⟨a.tmps.getD 5 undef, a.tmps.getD 6 undef, a.tmps.getD 7 undef, a.tmps.getD 8 undef, a.tmps.getD 9 undef, a.tmps.getD 10 undef, a.tmps.getD 11 undef, a.tmps.getD 12 undef, a.tmps.getD 13 undef, a.tmps.getD 14 undef, a.tmps.getD 15 undef, a.tmps.getD 16 undef, a.tmps.getD 17 undef, a.tmps.getD 18 undef, a.tmps.getD 19 undef, a.tmps.getD 20 undef, a.tmps.getD 21 undef, a.tmps.getD 22 undef, a.tmps.getD 23 undef, a.tmps.getD 24 undef, a.tmps.getD 25 undef, a.tmps.getD 26 undef, a.tmps.getD 27 undef, ⟨ga, s3, m3, n3, c3, t3, o3, p3, d3, gb, s4, m4, n4, c4, t4, o4, p4, d4, hp0, hge0, hb0, i0, hp1, hge1, hb1, i1, hne0_1, hJ.1⟩, act_eq _ _ [5, 6, 7, 8, 9, 10, 11, 12, 13, 14, 15, 16, 17, 18, 19, 20, 21, 22, 23, 24, 25, 26, 27] hf (by kernel_rfl) (hs.trans (by kernel_rfl)) hd (by kernel_rfl)⟩
  case rest =>
  obtain ⟨ga, s3, m3, n3, c3, t3, o3, p3, d3, gb, s4, m4, n4, c4, t4, o4, p4, d4, rfl, hge0, hbx0, hi0, rfl, hge1, hbx1, hi1, hne0_1, hb⟩ := hcut
  have LTS1 := hide (And.intro (And.intro (Nat.lt_of_lt_of_le P0.out.lt hge0) (And.intro (Nat.lt_of_lt_of_le P1.out.lt hge0) ((Nat.lt_of_lt_of_le P2.out.lt hge0)))) (And.intro (And.intro (Nat.lt_of_lt_of_le P0.out.lt hge1) (And.intro (Nat.lt_of_lt_of_le P1.out.lt hge1) ((Nat.lt_of_lt_of_le P2.out.lt hge1)))) (hne0_1)))
  replace I1 := hide (I1.out.below (hb))
  replace I2 := hide (I2.out.below (hb))
  replace P0 := hide (P0.out.step (hb))
  replace P1 := hide (P1.out.step (hb))
  replace P2 := hide (P2.out.step (hb))
  replace HB := hide (HB.out.trans ((hb).mono HB.out.size))
  have Va := hide hbx0
  have TA := hide hi0
  have Vb := hide hbx1
  have TB := hide hi1
  clear hb hge0 hbx0 hi0 hge1 hbx1 hi1 hne0_1
  generalize hwc : wc = wc1 at *
  clear hwc
  go_wp2_with fail
  have LTS := hide LTS1.out
  replace P2 := hide P2.out.drew
  refine wp_calm (fun w' => Below w.heap.size w w' ∧ Box4 w' ga (.bool s3) (.slice m3 n3 c3) (.bool t3) (.slice o3 p3 d3) ∧ Box4 w' gb (.bool s4) (.slice m4 n4 c4) (.bool t4) (.slice o4 p4 d4) ∧ RatAt w' (.agg #[.bool s3, .slice m3 n3 c3, .bool t3, .slice o3 p3 d3]) (Rat.divInt x.num (y.den : Int)) ∧ RatAt w' (.agg #[.bool s4, .slice m4 n4 c4, .bool t4, .slice o4 p4 d4]) (Rat.divInt y.num (x.den : Int))) (fun _ => true) 12 #[false, false, false, false, false, false, false, false, false, false, false, false] (by kernel_rfl) rfl rfl ?_
  have HF := hide (And.intro (HB.out.drew) (And.intro (Va.out.drew) (And.intro (Vb.out.drew) (And.intro (TA.out.drew) (TB.out.drew)))))
  generalize wc1.drew = wc1d at *
  refine Calm.take (i := 0) (v := ?_) (a' := ?_) (l' := #[true, false, false, false, false, false, false, false, false, false, false, false]) (d := some 17) rfl (by kernel_rfl) (by kernel_rfl) (by kernel_rfl) (by kernel_rfl) (fun _ _ _ h => h) HF.out rfl ?_ rfl rfl ?_ ?_
  rotate_left
  · intro w' hF; clear hF; go_simp; try rfl
  rotate_left
  · simp only [Act.put]; exact rfl
  refine Calm.take (i := 1) (v := ?_) (a' := ?_) (l' := #[true, true, false, false, false, false, false, false, false, false, false, false]) (d := some 18) rfl (by kernel_rfl) (by kernel_rfl) (by kernel_rfl) (by kernel_rfl) (fun _ _ _ h => h) HF.out rfl ?_ rfl rfl ?_ ?_
  rotate_left
  · intro w' hF; have f10 := hF.2.1.cell0; have f11 := hF.2.1.cell1; have f12 := hF.2.1.cell2; have f13 := hF.2.1.cell3; have f20 := hF.2.2.1.cell0; have f21 := hF.2.2.1.cell1; have f22 := hF.2.2.1.cell2; have f23 := hF.2.2.1.cell3; clear hF; go_simp; try rfl
  rotate_left
  · simp only [Act.put]; exact rfl
  refine Calm.take (i := 2) (v := ?_) (a' := ?_) (l' := #[true, true, true, false, false, false, false, false, false, false, false, false]) (d := some 19) rfl (by kernel_rfl) (by kernel_rfl) (by kernel_rfl) (by kernel_rfl) (fun _ _ _ h => h) HF.out rfl ?_ rfl rfl ?_ ?_
  rotate_left
  · intro w' hF; clear hF; go_simp; try rfl
  rotate_left
  · simp only [Act.put]; exact rfl
  refine Calm.take (i := 3) (v := ?_) (a' := ?_) (l' := #[true, true, true, true, false, false, false, false, false, false, false, false]) (d := some 20) rfl (by kernel_rfl) (by kernel_rfl) (by kernel_rfl) (by kernel_rfl) (fun _ _ _ h => h) HF.out rfl ?_ rfl rfl ?_ ?_
  rotate_left
  · intro w' hF; have f10 := hF.2.1.cell0; have f11 := hF.2.1.cell1; have f12 := hF.2.1.cell2; have f13 := hF.2.1.cell3; have f20 := hF.2.2.1.cell0; have f21 := hF.2.2.1.cell1; have f22 := hF.2.2.1.cell2; have f23 := hF.2.2.1.cell3; clear hF; go_simp; try rfl
  rotate_left
  · simp only [Act.put]; exact rfl
  refine Calm.take (i := 5) (v := ?_) (a' := ?_) (l' := #[true, true, true, true, false, true, false, false, false, false, false, false]) (d := some 22) rfl (by kernel_rfl) (by kernel_rfl) (by kernel_rfl) (by kernel_rfl) (fun _ _ _ h => h) HF.out rfl ?_ rfl rfl ?_ ?_
  rotate_left
  · intro w' hF; have f10 := hF.2.1.cell0; have f11 := hF.2.1.cell1; have f12 := hF.2.1.cell2; have f13 := hF.2.1.cell3; have f20 := hF.2.2.1.cell0; have f21 := hF.2.2.1.cell1; have f22 := hF.2.2.1.cell2; have f23 := hF.2.2.1.cell3; clear hF; go_simp; try rfl
  rotate_left
  · simp only [Act.put]; exact rfl
  refine Calm.take (i := 7) (v := ?_) (a' := ?_) (l' := #[true, true, true, true, false, true, false, true, false, false, false, false]) (d := some 24) rfl (by kernel_rfl) (by kernel_rfl) (by kernel_rfl) (by kernel_rfl) (fun _ _ _ h => h) HF.out rfl ?_ rfl rfl ?_ ?_
  rotate_left
  · intro w' hF; have f10 := hF.2.1.cell0; have f11 := hF.2.1.cell1; have f12 := hF.2.1.cell2; have f13 := hF.2.1.cell3; have f20 := hF.2.2.1.cell0; have f21 := hF.2.2.1.cell1; have f22 := hF.2.2.1.cell2; have f23 := hF.2.2.1.cell3; clear hF; go_simp; try rfl
  rotate_left
  · simp only [Act.put]; exact rfl
  refine Calm.one (i := 4) (l' := #[true, true, true, true, true, true, false, true, false, false, false, false]) (by kernel_rfl) rfl rfl rfl fun K hK => ?_
  go_simp
  refine (imul_any _ _ (Rat.divInt x.num (y.den : Int)).num (Rat.divInt y.num (x.den : Int)).num _ HF.out.2.2.2.1.num HF.out.2.2.2.2.num (SzI.len DA.out.1 (by decide)) (SzI.len DB.out.1 (by decide))).mono ?_
  rintro e u1 ⟨v, rfl, n, hb⟩
  replace P2 := hide (P2.out.step (hb))
  have HF' := hide (And.intro (HF.out.1.trans ((hb).mono HF.out.1.size)) (And.intro (HF.out.2.1.step (hb)) (And.intro (HF.out.2.2.1.step (hb)) (And.intro (HF.out.2.2.2.1.below (hb)) (HF.out.2.2.2.2.below (hb))))))
  have T1 := hide (n)
  refine hK _ _ (fun _ => HF'.out) ?_
  clear hK K HF hb n
  have HF := hide HF'.out
  clear HF'
  refine Calm.one (i := 6) (l' := #[true, true, true, true, true, true, true, true, false, false, false, false]) (by kernel_rfl) rfl rfl rfl fun K hK => ?_
  go_simp
  refine (den_any _ (Rat.divInt x.num (y.den : Int)) _ HF.out.2.2.2.1).mono ?_
  rintro e u2 ⟨v, rfl, n, hb⟩
  replace P2 := hide (P2.out.step (hb))
  replace T1 := hide (T1.out.below (hb))
  have HF' := hide (And.intro (HF.out.1.trans ((hb).mono HF.out.1.size)) (And.intro (HF.out.2.1.step (hb)) (And.intro (HF.out.2.2.1.step (hb)) (And.intro (HF.out.2.2.2.1.below (hb)) (HF.out.2.2.2.2.below (hb))))))
  have T2 := hide (n)
  refine hK _ _ (fun _ => HF'.out) ?_
  clear hK K HF hb n
  have HF := hide HF'.out
  clear HF'
  refine Calm.one (i := 8) (l' := #[true, true, true, true, true, true, true, true, true, false, false, false]) (by kernel_rfl) rfl rfl rfl fun K hK => ?_
  go_simp
  refine (den_any _ (Rat.divInt y.num (x.den : Int)) _ HF.out.2.2.2.2).mono ?_
  rintro e u3 ⟨v, rfl, n, hb⟩
  replace P2 := hide (P2.out.step (hb))
  replace T1 := hide (T1.out.below (hb))
  replace T2 := hide (T2.out.below (hb))
  have HF' := hide (And.intro (HF.out.1.trans ((hb).mono HF.out.1.size)) (And.intro (HF.out.2.1.step (hb)) (And.intro (HF.out.2.2.1.step (hb)) (And.intro (HF.out.2.2.2.1.below (hb)) (HF.out.2.2.2.2.below (hb))))))
  have T3 := hide (n)
  refine hK _ _ (fun _ => HF'.out) ?_
  clear hK K HF hb n
  have HF := hide HF'.out
  clear HF'
  refine Calm.one (i := 9) (l' := #[true, true, true, true, true, true, true, true, true, true, false, false]) (by kernel_rfl) rfl rfl rfl fun K hK => ?_
  go_simp
  refine (imul_any _ _ ((Rat.divInt x.num (y.den : Int)).den : Int) ((Rat.divInt y.num (x.den : Int)).den : Int) _ T2.out T3.out (SzI.len DA.out.2 (by decide)) (SzI.len DB.out.2 (by decide))).mono ?_
  rintro e u4 ⟨v, rfl, n, hb⟩
  replace P2 := hide (P2.out.step (hb))
  replace T1 := hide (T1.out.below (hb))
  clear T2
  clear T3
  have HF' := hide (And.intro (HF.out.1.trans ((hb).mono HF.out.1.size)) (And.intro (HF.out.2.1.step (hb)) (And.intro (HF.out.2.2.1.step (hb)) (And.intro (HF.out.2.2.2.1.below (hb)) (HF.out.2.2.2.2.below (hb))))))
  have T4 := hide (n)
  refine hK _ _ (fun _ => HF'.out) ?_
  clear hK K HF hb n
  have HF := hide HF'.out
  clear HF'
  refine Calm.one (i := 10) (l' := #[true, true, true, true, true, true, true, true, true, true, true, false]) (by kernel_rfl) rfl rfl rfl fun K hK => ?_
  go_simp
  refine (rmade_any _ _ (x * y) _ (by rw [(mul_terms x y).1]; exact T1.out) (by rw [(mul_terms x y).2, Int.natCast_mul]; exact T4.out)).mono ?_
  rintro e u5 ⟨v, rfl, n, hb⟩
  obtain ⟨s9, m9, n9, c9, t9, o9, p9, d9, rfl, n⟩ := n.cells
  replace P2 := hide (P2.out.step (hb))
  clear T1
  clear T4
  have HF' := hide (And.intro (HF.out.1.trans ((hb).mono HF.out.1.size)) (And.intro (HF.out.2.1.step (hb)) (And.intro (HF.out.2.2.1.step (hb)) (And.intro (HF.out.2.2.2.1.below (hb)) (HF.out.2.2.2.2.below (hb))))))
  have TR := hide (n)
  refine hK _ _ (fun _ => HF'.out) ?_
  clear hK K HF hb n
  have HF := hide HF'.out
  clear HF'
  refine Calm.one (i := 11) (l' := #[true, true, true, true, true, true, true, true, true, true, true, true]) (by kernel_rfl) rfl rfl rfl fun K hK => ?_
  have hc0 := P2.out.cell0
  have hc1 := P2.out.cell1
  have hc2 := P2.out.cell2
  have hc3 := P2.out.cell3
  have hf0 := P2.out.free 0
  have hf1 := P2.out.free 1
  have hf2 := P2.out.free 2
  have hf3 := P2.out.free 3
  go_simp
  have HF' := hide (And.intro (below_put4 HF.out.1 (show w.heap.size ≤ (w.heap.size + 1 + 1) by have hx := LTS.out; omega) (.bool s9) (.slice m9 n9 c9) (.bool t9) (.slice o9 p9 d9)) (And.intro (HF.out.2.1.other4 (C := (w.heap.size + 1 + 1)) (by have hx := LTS.out; omega) (.bool s9) (.slice m9 n9 c9) (.bool t9) (.slice o9 p9 d9)) (And.intro (HF.out.2.2.1.other4 (C := (w.heap.size + 1 + 1)) (by have hx := LTS.out; omega) (.bool s9) (.slice m9 n9 c9) (.bool t9) (.slice o9 p9 d9)) (And.intro (HF.out.2.2.2.1.keep (P2.out.keeps (by simp) (by simp) (by simp) (by simp) (.bool s9) (.slice m9 n9 c9) (.bool t9) (.slice o9 p9 d9))) (HF.out.2.2.2.2.keep (P2.out.keeps (by simp) (by simp) (by simp) (by simp) (.bool s9) (.slice m9 n9 c9) (.bool t9) (.slice o9 p9 d9)))))))
  replace TR := hide (TR.out.keep (P2.out.keeps (by simp) (by simp) (by simp) (by simp) (.bool s9) (.slice m9 n9 c9) (.bool t9) (.slice o9 p9 d9)))
  replace P2 := hide (P2.out.put (.bool s9) (.slice m9 n9 c9) (.bool t9) (.slice o9 p9 d9))
  refine hK _ _ (fun _ => HF'.out) ?_
  clear hK K HF hc0 hf0 hc1 hf1 hc2 hf2 hc3 hf3
  have HF := hide HF'.out
  clear HF'
  generalize ((((u5.setCell ⟨(w.heap.size + 1 + 1), 0, none⟩ (.bool s9)).setCell ⟨(w.heap.size + 1 + 1), 1, none⟩ (.slice m9 n9 c9)).setCell ⟨(w.heap.size + 1 + 1), 2, none⟩ (.bool t9)).setCell ⟨(w.heap.size + 1 + 1), 3, none⟩ (.slice o9 p9 d9)) = u8 at *
  refine Calm.done (by kernel_rfl) ?_
  replace HB := hide HF.out.1
  replace Va := hide HF.out.2.1
  replace Vb := hide HF.out.2.2.1
  replace TA := hide HF.out.2.2.2.1
  replace TB := hide HF.out.2.2.2.2
  clear HF
  clear I1
  clear I2
  clear P0
  clear P1
  go_wp2
  refine ret_rat rfl (w.heap.size + 1 + 1) _ _ _ _ rfl P2.out rfl ?_
  exact ⟨_, rfl, TR.out, HB.out⟩
end Go.Proofs.Ytgkibmigbjjnnaa
