/- ratio.Rat's Add and Sub. -/
import Derived.Test.YtgkibmigbjjnnaaRLow
import Derived.Test.YtgkibmigbjjnnaaPtrC
import Derived.Deep.Cut
namespace Go.Proofs.Ytgkibmigbjjnnaa
open Go.RowKit

theorem iproduct_big (v : Value) (x y z : Int) (w : World) (h : Ints w v [x, y, z]) (sx : SzI 100000000 x) (sy : SzI 100000000 y) (sz : SzI 100000000 z) :
    Calls Try.prog 46 #[v] w fun e w' => ∃ v', e = .returned v' ∧ IntAt w' v' (x * y * z) ∧ Below w.heap.size w w' := by
  refine (iproduct_any v [x, y, z] w h ?_ ?_).mono ?_
  · intro k hk
    match k, hk with
    | 0, _ => exact SzI.one.len (by decide)
    | 1, _ => exact (SzI.one.mul sx).len (by decide)
    | 2, _ => exact ((SzI.one.mul sx).mul sy).len (by decide)
    | 3, _ => exact (((SzI.one.mul sx).mul sy).mul sz).len (by decide)
  · intro k hk
    match k, hk with
    | 0, _ => exact sx.len (by decide)
    | 1, _ => exact sy.len (by decide)
    | 2, _ => exact sz.len (by decide)
  · rintro e w' ⟨v', rfl, hi, hb⟩
    refine ⟨v', rfl, ?_, hb⟩
    have : accZ (· * ·) 1 [x, y, z] 3 = x * y * z := by simp [accZ]
    exact this ▸ hi

set_option maxRecDepth 100000 in
set_option maxHeartbeats 16000000 in
theorem rtadd_any (v1 v2 : Value) (x y : Rat) (w : World) (h1 : RatAt w v1 x) (h2 : RatAt w v2 y) (hx : SzR 100000000 x) (hy : SzR 100000000 y) :
    Calls Try.prog 17 #[v1, v2] w fun e w' => ∃ v', e = .returned v' ∧ RatAt w' v' (x + y) ∧ Below w.heap.size w w' := by
  have HG0 : Hid (gdn x y ≠ 0) := hide (by have := gdn_pos x y; omega)
  have SA := hide (sz_sA hx y)
  have SB := hide (sz_sB hy x)
  have SG := hide (sz_gdn hx y)
  have SS := hide (sz_sS hx hy)
  have DR := hide (SzR.divInt HG0.out SS.out SG.out)
  have HX := hide hx
  have HY := hide hy
  clear hx hy
  obtain ⟨s1, m1, n1, c1, t1, o1, p1, d1, rfl, i1⟩ := h1.cells
  have I1 := hide i1
  clear h1 i1
  obtain ⟨s2, m2, n2, c2, t2, o2, p2, d2, rfl, i2⟩ := h2.cells
  have I2 := hide i2
  clear h2 i2
  have P0 := Box4.new w (.bool s1) (.slice m1 n1 c1) (.bool t1) (.slice o1 p1 d1)
  replace P0 := P0.step (below_alloc _ (.cells #[.bool s2, .slice m2 n2 c2, .bool t2, .slice o2 p2 d2] 27))
  replace P0 := P0.step (below_alloc _ (.cells #[.bool false, .slice none 0 0, .bool false, .slice none 0 0] 27))
  replace P0 := hide P0
  have P1 := Box4.new (w.alloc (.cells #[.bool s1, .slice m1 n1 c1, .bool t1, .slice o1 p1 d1] 27)) (.bool s2) (.slice m2 n2 c2) (.bool t2) (.slice o2 p2 d2)
  simp only [World.size_alloc] at P1
  replace P1 := P1.step (below_alloc _ (.cells #[.bool false, .slice none 0 0, .bool false, .slice none 0 0] 27))
  replace P1 := hide P1
  have P2 := Box4.new ((w.alloc (.cells #[.bool s1, .slice m1 n1 c1, .bool t1, .slice o1 p1 d1] 27)).alloc (.cells #[.bool s2, .slice m2 n2 c2, .bool t2, .slice o2 p2 d2] 27)) (.bool false) (.slice none 0 0) (.bool false) (.slice none 0 0)
  simp only [World.size_alloc] at P2
  replace P2 := hide P2
  have HB := below_alloc w (.cells #[.bool s1, .slice m1 n1 c1, .bool t1, .slice o1 p1 d1] 27)
  replace HB := HB.trans ((below_alloc _ (.cells #[.bool s2, .slice m2 n2 c2, .bool t2, .slice o2 p2 d2] 27)).mono (by simp only [World.size_alloc]; omega))
  replace HB := HB.trans ((below_alloc _ (.cells #[.bool false, .slice none 0 0, .bool false, .slice none 0 0] 27)).mono (by simp only [World.size_alloc]; omega))
  replace I1 := hide (I1.out.below HB)
  replace I2 := hide (I2.out.below HB)
  replace HB := hide HB
  go_enter Try.func17, Try.ntmps17
  go_wp2_with fail
  generalize (((w.alloc (.cells #[.bool s1, .slice m1 n1 c1, .bool t1, .slice o1 p1 d1] 27)).alloc (.cells #[.bool s2, .slice m2 n2 c2, .bool t2, .slice o2 p2 d2] 27)).alloc (.cells #[.bool false, .slice none 0 0, .bool false, .slice none 0 0] 27)) = w0 at *
  go_cut [5] from 9 (fun pt0 wx => ∃ gg s3 m3 n3 c3, pt0 = .pointer (some ⟨gg, 0, none⟩) ∧ w0.heap.size ≤ gg ∧ Box wx gg (.bool s3) (.slice m3 n3 c3) ∧ IntAt wx (.agg #[.bool s3, .slice m3 n3 c3]) (gdn x y) ∧ Below w0.heap.size w0 wx)
  case first =>
    refine wp_facts (fun L T wq => Below w0.heap.size w0 wq ∧ T 2 = .pointer (some ⟨w.heap.size, 0, none⟩) ∧ T 3 = .pointer (some ⟨(w.heap.size + 1), 0, none⟩) ∧ (L 0 = true → T 9 = .agg #[.bool s1, .slice m1 n1 c1, .bool t1, .slice o1 p1 d1]) ∧ (L 2 = true → T 11 = .agg #[.bool s2, .slice m2 n2 c2, .bool t2, .slice o2 p2 d2]) ∧ (L 1 = true → IntAt wq (T 10) (x.den : Int)) ∧ (L 3 = true → IntAt wq (T 12) (y.den : Int)) ∧ (L 4 = true → IntAt wq (T 13) (gdn x y)) ∧ (L 5 = true → PS w0.heap.size wq (T 5)) ∧ (L 5 = true → L 6 = false → PB w0.heap.size wq 25 (T 5) [.bool false, .slice none 0 0]) ∧ (L 6 = true → PV w0.heap.size wq 25 (T 5) (T 13))) 42 [5, 9, 10, 11, 12, 13] [0, 1, 2, 3, 4, 5, 6] (by kernel_rfl) (by kernel_rfl) (by kernel_rfl) (by kernel_rfl) ?_ ?_ ?_
    · exact ⟨(Below.refl w0.heap.size w0).drew, rfl, rfl, no_yet, no_yet, no_yet, no_yet, no_yet, no_yet, no_yet, no_yet⟩
    · intro i hi
      match i, hi with
      | 0, _ =>
        refine StepAt.of (need := []) (later := []) (k := 6) (d := some 9) rfl rfl (by kernel_rfl) (by kernel_rfl) ?_
        intro L T wq ev a he hL hN hM hJ next hnext
        have e2 := (he.tmp 2).trans hJ.2.1
        have hcl0 := ((P0.out).step hJ.1).cell0
        have hcl1 := ((P0.out).step hJ.1).cell1
        have hcl2 := ((P0.out).step hJ.1).cell2
        have hcl3 := ((P0.out).step hJ.1).cell3
        go_simp
        exact hnext _ _ ⟨hJ.1, hJ.2.1, hJ.2.2.1, fun _ => rfl, hJ.2.2.2.2.1, hJ.2.2.2.2.2.1, hJ.2.2.2.2.2.2.1, hJ.2.2.2.2.2.2.2.1, hJ.2.2.2.2.2.2.2.2.1, hJ.2.2.2.2.2.2.2.2.2.1, hJ.2.2.2.2.2.2.2.2.2.2⟩
      | 1, _ =>
        refine StepAt.of (need := [0]) (later := []) (k := 6) (d := some 10) rfl rfl (by kernel_rfl) (by kernel_rfl) ?_
        intro L T wq ev a he hL hN hM hJ next hnext
        have e9 := (he.tmp 9).trans (hJ.2.2.2.1 (hN.1))
        have ef := he.func
        go_simp
        refine (den_any _ x _ (I1.out.below hJ.1)).mono ?_
        rintro e wq' ⟨v, rfl, i, hb⟩
        exact hnext _ _ ⟨hJ.1.trans ((hb).mono hJ.1.size), hJ.2.1, hJ.2.2.1, hJ.2.2.2.1, hJ.2.2.2.2.1, fun _ => i, fun h => (hJ.2.2.2.2.2.2.1 h).below (hb), fun h => (hJ.2.2.2.2.2.2.2.1 h).below (hb), fun h => (hJ.2.2.2.2.2.2.2.2.1 h).step (hb), fun h h' => (hJ.2.2.2.2.2.2.2.2.2.1 h h').step (hb), fun h => (hJ.2.2.2.2.2.2.2.2.2.2 h).step (hb)⟩
      | 2, _ =>
        refine StepAt.of (need := []) (later := []) (k := 6) (d := some 11) rfl rfl (by kernel_rfl) (by kernel_rfl) ?_
        intro L T wq ev a he hL hN hM hJ next hnext
        have e3 := (he.tmp 3).trans hJ.2.2.1
        have hcl0 := ((P1.out).step hJ.1).cell0
        have hcl1 := ((P1.out).step hJ.1).cell1
        have hcl2 := ((P1.out).step hJ.1).cell2
        have hcl3 := ((P1.out).step hJ.1).cell3
        go_simp
        exact hnext _ _ ⟨hJ.1, hJ.2.1, hJ.2.2.1, hJ.2.2.2.1, fun _ => rfl, hJ.2.2.2.2.2.1, hJ.2.2.2.2.2.2.1, hJ.2.2.2.2.2.2.2.1, hJ.2.2.2.2.2.2.2.2.1, hJ.2.2.2.2.2.2.2.2.2.1, hJ.2.2.2.2.2.2.2.2.2.2⟩
      | 3, _ =>
        refine StepAt.of (need := [2]) (later := []) (k := 6) (d := some 12) rfl rfl (by kernel_rfl) (by kernel_rfl) ?_
        intro L T wq ev a he hL hN hM hJ next hnext
        have e11 := (he.tmp 11).trans (hJ.2.2.2.2.1 (hN.1))
        have ef := he.func
        go_simp
        refine (den_any _ y _ (I2.out.below hJ.1)).mono ?_
        rintro e wq' ⟨v, rfl, i, hb⟩
        exact hnext _ _ ⟨hJ.1.trans ((hb).mono hJ.1.size), hJ.2.1, hJ.2.2.1, hJ.2.2.2.1, hJ.2.2.2.2.1, fun h => (hJ.2.2.2.2.2.1 h).below (hb), fun _ => i, fun h => (hJ.2.2.2.2.2.2.2.1 h).below (hb), fun h => (hJ.2.2.2.2.2.2.2.2.1 h).step (hb), fun h h' => (hJ.2.2.2.2.2.2.2.2.2.1 h h').step (hb), fun h => (hJ.2.2.2.2.2.2.2.2.2.2 h).step (hb)⟩
      | 4, _ =>
        refine StepAt.of (need := [1, 3]) (later := [6]) (k := 6) (d := some 13) rfl rfl (by kernel_rfl) (by kernel_rfl) ?_
        intro L T wq ev a he hL hN hM hJ next hnext
        have e10 := he.tmp 10
        have e12 := he.tmp 12
        have ef := he.func
        go_simp
        refine (igcd_any _ _ (x.den : Int) (y.den : Int) _ (hJ.2.2.2.2.2.1 (hN.1)) (hJ.2.2.2.2.2.2.1 (hN.2.1)) (SzI.len HX.out.den (by decide)) (SzI.len HY.out.den (by decide))).mono ?_
        rintro e wq' ⟨v, rfl, i, hb⟩
        exact hnext _ _ ⟨hJ.1.trans ((hb).mono hJ.1.size), hJ.2.1, hJ.2.2.1, hJ.2.2.2.1, hJ.2.2.2.2.1, fun h => (hJ.2.2.2.2.2.1 h).below (hb), fun h => (hJ.2.2.2.2.2.2.1 h).below (hb), fun _ => i, fun h => (hJ.2.2.2.2.2.2.2.2.1 h).step (hb), fun h h' => (hJ.2.2.2.2.2.2.2.2.2.1 h h').step (hb), fun h => clash (hM.1) h⟩
      | 5, _ =>
        refine StepAt.of (need := []) (later := [6]) (k := 6) (d := some 5) rfl rfl (by kernel_rfl) (by kernel_rfl) ?_
        intro L T wq ev a he hL hN hM hJ next hnext
        go_simp
        have hb := below_alloc wq (.cells #[.bool false, .slice none 0 0] 25)
        exact hnext _ _ ⟨hJ.1.trans ((hb).mono hJ.1.size), hJ.2.1, hJ.2.2.1, hJ.2.2.2.1, hJ.2.2.2.2.1, fun h => (hJ.2.2.2.2.2.1 h).below (hb), fun h => (hJ.2.2.2.2.2.2.1 h).below (hb), fun h => (hJ.2.2.2.2.2.2.2.1 h).below (hb), fun _ => PS.new hJ.1.size _, fun _ _ => PB.new hJ.1.size _ [.bool false, .slice none 0 0], fun h => clash (hM.1) h⟩
      | 6, _ =>
        refine StepAt.of (need := [5, 4]) (later := []) (k := 6) (d := none) rfl rfl (by kernel_rfl) (by kernel_rfl) ?_
        intro L T wq ev a he hL hN hM hJ next hnext
        obtain ⟨g, hg, hge, hbx⟩ := hJ.2.2.2.2.2.2.2.2.2.1 (hN.1) hL
        obtain ⟨sv, mv, nv, cv, hv, iv⟩ := (hJ.2.2.2.2.2.2.2.1 (hN.2.1)).cells
        have e5 := (he.tmp 5).trans hg
        have e13 := (he.tmp 13).trans hv
        have hc0 := hbx.cell 0 rfl
        have hf0 := hbx.free 0
        have hc1 := hbx.cell 1 rfl
        have hf1 := hbx.free 1
        have hk := keeps_all hbx (by intro c hc z e; subst e; simp at hc) [.bool sv, .slice mv nv cv] rfl
        go_simp
        exact hnext undef _ ⟨below_all hge [.bool sv, .slice mv nv cv] 0 _ hJ.1, hJ.2.1, hJ.2.2.1, hJ.2.2.2.1, hJ.2.2.2.2.1, fun h => (hJ.2.2.2.2.2.1 h).keep hk, fun h => (hJ.2.2.2.2.2.2.1 h).keep hk, fun h => (hJ.2.2.2.2.2.2.2.1 h).keep hk, fun h => (hJ.2.2.2.2.2.2.2.2.1 h).put [.bool sv, .slice mv nv cv], fun _ h => no_more h, fun _ => PV.set' [.bool sv, .slice mv nv cv] hg hv hbx hge rfl⟩
      | k + 7, hi => exact absurd hi (Nat.not_lt.2 (Nat.le_add_left 7 k))
    · intro L a wq hA hJ hs hd hf
      obtain ⟨gg, cs0, hp0, hge0, hv0, hb0⟩ := hJ.2.2.2.2.2.2.2.2.2.2 (hA.2.2.2.2.2.2.1)
      have i0 := hJ.2.2.2.2.2.2.2.1 (hA.2.2.2.2.1)
      obtain ⟨s3, m3, n3, c3, hq0, i0⟩ := i0.cells
      rw [hq0, Value.agg.injEq] at hv0
      have hl0 : cs0 = _ := congrArg Array.toList hv0.symm
      subst hl0
      refine (by assumption : ∀ a' w', Met _ a' w' → _) _ _ (Met.intro ((by assumption : ∀ a' w', _ → _) _ _ ?_))
      exact ⟨a.tmps.getD 5 undef, a.tmps.getD 9 undef, a.tmps.getD 10 undef, a.tmps.getD 11 undef, a.tmps.getD 12 undef, a.tmps.getD 13 undef, a.tmps.getD 14 undef, a.tmps.getD 15 undef, a.tmps.getD 16 undef, a.tmps.getD 17 undef, a.tmps.getD 18 undef, a.tmps.getD 19 undef, a.tmps.getD 20 undef, a.tmps.getD 21 undef, a.tmps.getD 22 undef, a.tmps.getD 23 undef, a.tmps.getD 24 undef, a.tmps.getD 25 undef, a.tmps.getD 26 undef, a.tmps.getD 27 undef, a.tmps.getD 28 undef, a.tmps.getD 29 undef, a.tmps.getD 30 undef, a.tmps.getD 31 undef, a.tmps.getD 32 undef, a.tmps.getD 33 undef, a.tmps.getD 34 undef, a.tmps.getD 35 undef, a.tmps.getD 36 undef, a.tmps.getD 37 undef, a.tmps.getD 38 undef, a.tmps.getD 39 undef, a.tmps.getD 40 undef, a.tmps.getD 41 undef, ⟨gg, s3, m3, n3, c3, hp0, hge0, hb0, i0, hJ.1⟩, act_eq _ _ [5, 9, 10, 11, 12, 13, 14, 15, 16, 17, 18, 19, 20, 21, 22, 23, 24, 25, 26, 27, 28, 29, 30, 31, 32, 33, 34, 35, 36, 37, 38, 39, 40, 41] hf (by kernel_rfl) (hs.trans (by kernel_rfl)) hd (by kernel_rfl)⟩
  case rest =>
  obtain ⟨gg, s3, m3, n3, c3, rfl, hge0, hbx0, hi0, hb⟩ := hcut
  have LTS1 := hide ((And.intro (Nat.lt_of_lt_of_le P0.out.lt hge0) (And.intro (Nat.lt_of_lt_of_le P1.out.lt hge0) ((Nat.lt_of_lt_of_le P2.out.lt hge0)))))
  replace I1 := hide (I1.out.below (hb))
  replace I2 := hide (I2.out.below (hb))
  replace P0 := hide (P0.out.step (hb))
  replace P1 := hide (P1.out.step (hb))
  replace P2 := hide (P2.out.step (hb))
  replace HB := hide (HB.out.trans ((hb).mono HB.out.size))
  have Vg := hide hbx0
  have TG := hide hi0
  clear hb hge0 hbx0 hi0
  generalize hwc : wc = wc1 at *
  clear hwc
  go_wp2_with fail
  go_cut [6, 7] from 14 (fun pt0 pt1 wx => ∃ ga s4 m4 n4 c4 gb s5 m5 n5 c5, pt0 = .pointer (some ⟨ga, 0, none⟩) ∧ wc1.heap.size ≤ ga ∧ Box wx ga (.bool s4) (.slice m4 n4 c4) ∧ IntAt wx (.agg #[.bool s4, .slice m4 n4 c4]) (sA x y) ∧ pt1 = .pointer (some ⟨gb, 0, none⟩) ∧ wc1.heap.size ≤ gb ∧ Box wx gb (.bool s5) (.slice m5 n5 c5) ∧ IntAt wx (.agg #[.bool s5, .slice m5 n5 c5]) (sB x y) ∧ ga ≠ gb ∧ Below wc1.heap.size wc1 wx)
  case first =>
    refine wp_facts (fun L T wq => Below wc1.heap.size wc1 wq ∧ T 2 = .pointer (some ⟨w.heap.size, 0, none⟩) ∧ T 3 = .pointer (some ⟨(w.heap.size + 1), 0, none⟩) ∧ T 5 = .pointer (some ⟨gg, 0, none⟩) ∧ (L 0 = true → T 14 = .agg #[.bool s1, .slice m1 n1 c1, .bool t1, .slice o1 p1 d1]) ∧ (L 2 = true → T 16 = .agg #[.bool s3, .slice m3 n3 c3]) ∧ (L 4 = true → T 18 = .agg #[.bool s2, .slice m2 n2 c2, .bool t2, .slice o2 p2 d2]) ∧ (L 6 = true → T 20 = .agg #[.bool s3, .slice m3 n3 c3]) ∧ (L 1 = true → IntAt wq (T 15) (x.den : Int)) ∧ (L 3 = true → IntAt wq (T 17) (sA x y)) ∧ (L 5 = true → IntAt wq (T 19) (y.den : Int)) ∧ (L 7 = true → IntAt wq (T 21) (sB x y)) ∧ (L 8 = true → PS wc1.heap.size wq (T 6)) ∧ (L 8 = true → L 10 = false → PB wc1.heap.size wq 25 (T 6) [.bool false, .slice none 0 0]) ∧ (L 9 = true → PS wc1.heap.size wq (T 7)) ∧ (L 9 = true → L 11 = false → PB wc1.heap.size wq 25 (T 7) [.bool false, .slice none 0 0]) ∧ (L 8 = true → L 9 = true → T 6 ≠ T 7) ∧ (L 10 = true → PV wc1.heap.size wq 25 (T 6) (T 17)) ∧ (L 11 = true → PV wc1.heap.size wq 25 (T 7) (T 21))) 42 [6, 7, 14, 15, 16, 17, 18, 19, 20, 21] [0, 1, 2, 3, 4, 5, 6, 7, 8, 9, 10, 11] (by kernel_rfl) (by kernel_rfl) (by kernel_rfl) (by kernel_rfl) ?_ ?_ ?_
    · exact ⟨(Below.refl wc1.heap.size wc1).drew, rfl, rfl, rfl, no_yet, no_yet, no_yet, no_yet, no_yet, no_yet, no_yet, no_yet, no_yet, no_yet, no_yet, no_yet, no_yet, no_yet, no_yet⟩
    · intro i hi
      match i, hi with
      | 0, _ =>
        refine StepAt.of (need := []) (later := []) (k := 6) (d := some 14) rfl rfl (by kernel_rfl) (by kernel_rfl) ?_
        intro L T wq ev a he hL hN hM hJ next hnext
        have e2 := (he.tmp 2).trans hJ.2.1
        have hcl0 := ((P0.out).step hJ.1).cell0
        have hcl1 := ((P0.out).step hJ.1).cell1
        have hcl2 := ((P0.out).step hJ.1).cell2
        have hcl3 := ((P0.out).step hJ.1).cell3
        go_simp
        exact hnext _ _ ⟨hJ.1, hJ.2.1, hJ.2.2.1, hJ.2.2.2.1, fun _ => rfl, hJ.2.2.2.2.2.1, hJ.2.2.2.2.2.2.1, hJ.2.2.2.2.2.2.2.1, hJ.2.2.2.2.2.2.2.2.1, hJ.2.2.2.2.2.2.2.2.2.1, hJ.2.2.2.2.2.2.2.2.2.2.1, hJ.2.2.2.2.2.2.2.2.2.2.2.1, hJ.2.2.2.2.2.2.2.2.2.2.2.2.1, hJ.2.2.2.2.2.2.2.2.2.2.2.2.2.1, hJ.2.2.2.2.2.2.2.2.2.2.2.2.2.2.1, hJ.2.2.2.2.2.2.2.2.2.2.2.2.2.2.2.1, hJ.2.2.2.2.2.2.2.2.2.2.2.2.2.2.2.2.1, hJ.2.2.2.2.2.2.2.2.2.2.2.2.2.2.2.2.2.1, hJ.2.2.2.2.2.2.2.2.2.2.2.2.2.2.2.2.2.2⟩
      | 1, _ =>
        refine StepAt.of (need := [0]) (later := []) (k := 6) (d := some 15) rfl rfl (by kernel_rfl) (by kernel_rfl) ?_
        intro L T wq ev a he hL hN hM hJ next hnext
        have e14 := (he.tmp 14).trans (hJ.2.2.2.2.1 (hN.1))
        have ef := he.func
        go_simp
        refine (den_any _ x _ (I1.out.below hJ.1)).mono ?_
        rintro e wq' ⟨v, rfl, i, hb⟩
        exact hnext _ _ ⟨hJ.1.trans ((hb).mono hJ.1.size), hJ.2.1, hJ.2.2.1, hJ.2.2.2.1, hJ.2.2.2.2.1, hJ.2.2.2.2.2.1, hJ.2.2.2.2.2.2.1, hJ.2.2.2.2.2.2.2.1, fun _ => i, fun h => (hJ.2.2.2.2.2.2.2.2.2.1 h).below (hb), fun h => (hJ.2.2.2.2.2.2.2.2.2.2.1 h).below (hb), fun h => (hJ.2.2.2.2.2.2.2.2.2.2.2.1 h).below (hb), fun h => (hJ.2.2.2.2.2.2.2.2.2.2.2.2.1 h).step (hb), fun h h' => (hJ.2.2.2.2.2.2.2.2.2.2.2.2.2.1 h h').step (hb), fun h => (hJ.2.2.2.2.2.2.2.2.2.2.2.2.2.2.1 h).step (hb), fun h h' => (hJ.2.2.2.2.2.2.2.2.2.2.2.2.2.2.2.1 h h').step (hb), hJ.2.2.2.2.2.2.2.2.2.2.2.2.2.2.2.2.1, fun h => (hJ.2.2.2.2.2.2.2.2.2.2.2.2.2.2.2.2.2.1 h).step (hb), fun h => (hJ.2.2.2.2.2.2.2.2.2.2.2.2.2.2.2.2.2.2 h).step (hb)⟩
      | 2, _ =>
        refine StepAt.of (need := []) (later := []) (k := 6) (d := some 16) rfl rfl (by kernel_rfl) (by kernel_rfl) ?_
        intro L T wq ev a he hL hN hM hJ next hnext
        have e5 := (he.tmp 5).trans hJ.2.2.2.1
        have hcl0 := ((Vg.out).step hJ.1).cell0
        have hcl1 := ((Vg.out).step hJ.1).cell1
        go_simp
        exact hnext _ _ ⟨hJ.1, hJ.2.1, hJ.2.2.1, hJ.2.2.2.1, hJ.2.2.2.2.1, fun _ => rfl, hJ.2.2.2.2.2.2.1, hJ.2.2.2.2.2.2.2.1, hJ.2.2.2.2.2.2.2.2.1, hJ.2.2.2.2.2.2.2.2.2.1, hJ.2.2.2.2.2.2.2.2.2.2.1, hJ.2.2.2.2.2.2.2.2.2.2.2.1, hJ.2.2.2.2.2.2.2.2.2.2.2.2.1, hJ.2.2.2.2.2.2.2.2.2.2.2.2.2.1, hJ.2.2.2.2.2.2.2.2.2.2.2.2.2.2.1, hJ.2.2.2.2.2.2.2.2.2.2.2.2.2.2.2.1, hJ.2.2.2.2.2.2.2.2.2.2.2.2.2.2.2.2.1, hJ.2.2.2.2.2.2.2.2.2.2.2.2.2.2.2.2.2.1, hJ.2.2.2.2.2.2.2.2.2.2.2.2.2.2.2.2.2.2⟩
      | 3, _ =>
        refine StepAt.of (need := [1, 2]) (later := [10]) (k := 6) (d := some 17) rfl rfl (by kernel_rfl) (by kernel_rfl) ?_
        intro L T wq ev a he hL hN hM hJ next hnext
        have e15 := he.tmp 15
        have e16 := (he.tmp 16).trans (hJ.2.2.2.2.2.1 (hN.2.1))
        have ef := he.func
        go_simp
        refine (quotient_any _ _ (x.den : Int) (gdn x y) _ (hJ.2.2.2.2.2.2.2.2.1 (hN.1)) (TG.out.below hJ.1) (SzI.len HX.out.den (by decide)) (SzI.len SG.out (by decide)) HG0.out).mono ?_
        rintro e wq' ⟨v, rfl, i, hb⟩
        exact hnext _ _ ⟨hJ.1.trans ((hb).mono hJ.1.size), hJ.2.1, hJ.2.2.1, hJ.2.2.2.1, hJ.2.2.2.2.1, hJ.2.2.2.2.2.1, hJ.2.2.2.2.2.2.1, hJ.2.2.2.2.2.2.2.1, fun h => (hJ.2.2.2.2.2.2.2.2.1 h).below (hb), fun _ => i, fun h => (hJ.2.2.2.2.2.2.2.2.2.2.1 h).below (hb), fun h => (hJ.2.2.2.2.2.2.2.2.2.2.2.1 h).below (hb), fun h => (hJ.2.2.2.2.2.2.2.2.2.2.2.2.1 h).step (hb), fun h h' => (hJ.2.2.2.2.2.2.2.2.2.2.2.2.2.1 h h').step (hb), fun h => (hJ.2.2.2.2.2.2.2.2.2.2.2.2.2.2.1 h).step (hb), fun h h' => (hJ.2.2.2.2.2.2.2.2.2.2.2.2.2.2.2.1 h h').step (hb), hJ.2.2.2.2.2.2.2.2.2.2.2.2.2.2.2.2.1, fun h => clash (hM.1) h, fun h => (hJ.2.2.2.2.2.2.2.2.2.2.2.2.2.2.2.2.2.2 h).step (hb)⟩
      | 4, _ =>
        refine StepAt.of (need := []) (later := []) (k := 6) (d := some 18) rfl rfl (by kernel_rfl) (by kernel_rfl) ?_
        intro L T wq ev a he hL hN hM hJ next hnext
        have e3 := (he.tmp 3).trans hJ.2.2.1
        have hcl0 := ((P1.out).step hJ.1).cell0
        have hcl1 := ((P1.out).step hJ.1).cell1
        have hcl2 := ((P1.out).step hJ.1).cell2
        have hcl3 := ((P1.out).step hJ.1).cell3
        go_simp
        exact hnext _ _ ⟨hJ.1, hJ.2.1, hJ.2.2.1, hJ.2.2.2.1, hJ.2.2.2.2.1, hJ.2.2.2.2.2.1, fun _ => rfl, hJ.2.2.2.2.2.2.2.1, hJ.2.2.2.2.2.2.2.2.1, hJ.2.2.2.2.2.2.2.2.2.1, hJ.2.2.2.2.2.2.2.2.2.2.1, hJ.2.2.2.2.2.2.2.2.2.2.2.1, hJ.2.2.2.2.2.2.2.2.2.2.2.2.1, hJ.2.2.2.2.2.2.2.2.2.2.2.2.2.1, hJ.2.2.2.2.2.2.2.2.2.2.2.2.2.2.1, hJ.2.2.2.2.2.2.2.2.2.2.2.2.2.2.2.1, hJ.2.2.2.2.2.2.2.2.2.2.2.2.2.2.2.2.1, hJ.2.2.2.2.2.2.2.2.2.2.2.2.2.2.2.2.2.1, hJ.2.2.2.2.2.2.2.2.2.2.2.2.2.2.2.2.2.2⟩
      | 5, _ =>
        refine StepAt.of (need := [4]) (later := []) (k := 6) (d := some 19) rfl rfl (by kernel_rfl) (by kernel_rfl) ?_
        intro L T wq ev a he hL hN hM hJ next hnext
        have e18 := (he.tmp 18).trans (hJ.2.2.2.2.2.2.1 (hN.1))
        have ef := he.func
        go_simp
        refine (den_any _ y _ (I2.out.below hJ.1)).mono ?_
        rintro e wq' ⟨v, rfl, i, hb⟩
        exact hnext _ _ ⟨hJ.1.trans ((hb).mono hJ.1.size), hJ.2.1, hJ.2.2.1, hJ.2.2.2.1, hJ.2.2.2.2.1, hJ.2.2.2.2.2.1, hJ.2.2.2.2.2.2.1, hJ.2.2.2.2.2.2.2.1, fun h => (hJ.2.2.2.2.2.2.2.2.1 h).below (hb), fun h => (hJ.2.2.2.2.2.2.2.2.2.1 h).below (hb), fun _ => i, fun h => (hJ.2.2.2.2.2.2.2.2.2.2.2.1 h).below (hb), fun h => (hJ.2.2.2.2.2.2.2.2.2.2.2.2.1 h).step (hb), fun h h' => (hJ.2.2.2.2.2.2.2.2.2.2.2.2.2.1 h h').step (hb), fun h => (hJ.2.2.2.2.2.2.2.2.2.2.2.2.2.2.1 h).step (hb), fun h h' => (hJ.2.2.2.2.2.2.2.2.2.2.2.2.2.2.2.1 h h').step (hb), hJ.2.2.2.2.2.2.2.2.2.2.2.2.2.2.2.2.1, fun h => (hJ.2.2.2.2.2.2.2.2.2.2.2.2.2.2.2.2.2.1 h).step (hb), fun h => (hJ.2.2.2.2.2.2.2.2.2.2.2.2.2.2.2.2.2.2 h).step (hb)⟩
      | 6, _ =>
        refine StepAt.of (need := []) (later := []) (k := 6) (d := some 20) rfl rfl (by kernel_rfl) (by kernel_rfl) ?_
        intro L T wq ev a he hL hN hM hJ next hnext
        have e5 := (he.tmp 5).trans hJ.2.2.2.1
        have hcl0 := ((Vg.out).step hJ.1).cell0
        have hcl1 := ((Vg.out).step hJ.1).cell1
        go_simp
        exact hnext _ _ ⟨hJ.1, hJ.2.1, hJ.2.2.1, hJ.2.2.2.1, hJ.2.2.2.2.1, hJ.2.2.2.2.2.1, hJ.2.2.2.2.2.2.1, fun _ => rfl, hJ.2.2.2.2.2.2.2.2.1, hJ.2.2.2.2.2.2.2.2.2.1, hJ.2.2.2.2.2.2.2.2.2.2.1, hJ.2.2.2.2.2.2.2.2.2.2.2.1, hJ.2.2.2.2.2.2.2.2.2.2.2.2.1, hJ.2.2.2.2.2.2.2.2.2.2.2.2.2.1, hJ.2.2.2.2.2.2.2.2.2.2.2.2.2.2.1, hJ.2.2.2.2.2.2.2.2.2.2.2.2.2.2.2.1, hJ.2.2.2.2.2.2.2.2.2.2.2.2.2.2.2.2.1, hJ.2.2.2.2.2.2.2.2.2.2.2.2.2.2.2.2.2.1, hJ.2.2.2.2.2.2.2.2.2.2.2.2.2.2.2.2.2.2⟩
      | 7, _ =>
        refine StepAt.of (need := [5, 6]) (later := [11]) (k := 6) (d := some 21) rfl rfl (by kernel_rfl) (by kernel_rfl) ?_
        intro L T wq ev a he hL hN hM hJ next hnext
        have e19 := he.tmp 19
        have e20 := (he.tmp 20).trans (hJ.2.2.2.2.2.2.2.1 (hN.2.1))
        have ef := he.func
        go_simp
        refine (quotient_any _ _ (y.den : Int) (gdn x y) _ (hJ.2.2.2.2.2.2.2.2.2.2.1 (hN.1)) (TG.out.below hJ.1) (SzI.len HY.out.den (by decide)) (SzI.len SG.out (by decide)) HG0.out).mono ?_
        rintro e wq' ⟨v, rfl, i, hb⟩
        exact hnext _ _ ⟨hJ.1.trans ((hb).mono hJ.1.size), hJ.2.1, hJ.2.2.1, hJ.2.2.2.1, hJ.2.2.2.2.1, hJ.2.2.2.2.2.1, hJ.2.2.2.2.2.2.1, hJ.2.2.2.2.2.2.2.1, fun h => (hJ.2.2.2.2.2.2.2.2.1 h).below (hb), fun h => (hJ.2.2.2.2.2.2.2.2.2.1 h).below (hb), fun h => (hJ.2.2.2.2.2.2.2.2.2.2.1 h).below (hb), fun _ => i, fun h => (hJ.2.2.2.2.2.2.2.2.2.2.2.2.1 h).step (hb), fun h h' => (hJ.2.2.2.2.2.2.2.2.2.2.2.2.2.1 h h').step (hb), fun h => (hJ.2.2.2.2.2.2.2.2.2.2.2.2.2.2.1 h).step (hb), fun h h' => (hJ.2.2.2.2.2.2.2.2.2.2.2.2.2.2.2.1 h h').step (hb), hJ.2.2.2.2.2.2.2.2.2.2.2.2.2.2.2.2.1, fun h => (hJ.2.2.2.2.2.2.2.2.2.2.2.2.2.2.2.2.2.1 h).step (hb), fun h => clash (hM.1) h⟩
      | 8, _ =>
        refine StepAt.of (need := []) (later := [10]) (k := 6) (d := some 6) rfl rfl (by kernel_rfl) (by kernel_rfl) ?_
        intro L T wq ev a he hL hN hM hJ next hnext
        go_simp
        have hb := below_alloc wq (.cells #[.bool false, .slice none 0 0] 25)
        exact hnext _ _ ⟨hJ.1.trans ((hb).mono hJ.1.size), hJ.2.1, hJ.2.2.1, hJ.2.2.2.1, hJ.2.2.2.2.1, hJ.2.2.2.2.2.1, hJ.2.2.2.2.2.2.1, hJ.2.2.2.2.2.2.2.1, fun h => (hJ.2.2.2.2.2.2.2.2.1 h).below (hb), fun h => (hJ.2.2.2.2.2.2.2.2.2.1 h).below (hb), fun h => (hJ.2.2.2.2.2.2.2.2.2.2.1 h).below (hb), fun h => (hJ.2.2.2.2.2.2.2.2.2.2.2.1 h).below (hb), fun _ => PS.new hJ.1.size _, fun _ _ => PB.new hJ.1.size _ [.bool false, .slice none 0 0], fun h => (hJ.2.2.2.2.2.2.2.2.2.2.2.2.2.2.1 h).step (hb), fun h h' => (hJ.2.2.2.2.2.2.2.2.2.2.2.2.2.2.2.1 h h').step (hb), fun _ h => Ne.symm (hJ.2.2.2.2.2.2.2.2.2.2.2.2.2.2.1 h).ne, fun h => clash (hM.1) h, fun h => (hJ.2.2.2.2.2.2.2.2.2.2.2.2.2.2.2.2.2.2 h).step (hb)⟩
      | 9, _ =>
        refine StepAt.of (need := []) (later := [11]) (k := 6) (d := some 7) rfl rfl (by kernel_rfl) (by kernel_rfl) ?_
        intro L T wq ev a he hL hN hM hJ next hnext
        go_simp
        have hb := below_alloc wq (.cells #[.bool false, .slice none 0 0] 25)
        exact hnext _ _ ⟨hJ.1.trans ((hb).mono hJ.1.size), hJ.2.1, hJ.2.2.1, hJ.2.2.2.1, hJ.2.2.2.2.1, hJ.2.2.2.2.2.1, hJ.2.2.2.2.2.2.1, hJ.2.2.2.2.2.2.2.1, fun h => (hJ.2.2.2.2.2.2.2.2.1 h).below (hb), fun h => (hJ.2.2.2.2.2.2.2.2.2.1 h).below (hb), fun h => (hJ.2.2.2.2.2.2.2.2.2.2.1 h).below (hb), fun h => (hJ.2.2.2.2.2.2.2.2.2.2.2.1 h).below (hb), fun h => (hJ.2.2.2.2.2.2.2.2.2.2.2.2.1 h).step (hb), fun h h' => (hJ.2.2.2.2.2.2.2.2.2.2.2.2.2.1 h h').step (hb), fun _ => PS.new hJ.1.size _, fun _ _ => PB.new hJ.1.size _ [.bool false, .slice none 0 0], fun h _ => (hJ.2.2.2.2.2.2.2.2.2.2.2.2.1 h).ne, fun h => (hJ.2.2.2.2.2.2.2.2.2.2.2.2.2.2.2.2.2.1 h).step (hb), fun h => clash (hM.1) h⟩
      | 10, _ =>
        refine StepAt.of (need := [8, 3, 9]) (later := []) (k := 6) (d := none) rfl rfl (by kernel_rfl) (by kernel_rfl) ?_
        intro L T wq ev a he hL hN hM hJ next hnext
        obtain ⟨g, hg, hge, hbx⟩ := hJ.2.2.2.2.2.2.2.2.2.2.2.2.2.1 (hN.1) hL
        obtain ⟨sv, mv, nv, cv, hv, iv⟩ := (hJ.2.2.2.2.2.2.2.2.2.1 (hN.2.1)).cells
        have e6 := (he.tmp 6).trans hg
        have e17 := (he.tmp 17).trans hv
        have hc0 := hbx.cell 0 rfl
        have hf0 := hbx.free 0
        have hc1 := hbx.cell 1 rfl
        have hf1 := hbx.free 1
        have hk := keeps_all hbx (by intro c hc z e; subst e; simp at hc) [.bool sv, .slice mv nv cv] rfl
        go_simp
        exact hnext undef _ ⟨below_all hge [.bool sv, .slice mv nv cv] 0 _ hJ.1, hJ.2.1, hJ.2.2.1, hJ.2.2.2.1, hJ.2.2.2.2.1, hJ.2.2.2.2.2.1, hJ.2.2.2.2.2.2.1, hJ.2.2.2.2.2.2.2.1, fun h => (hJ.2.2.2.2.2.2.2.2.1 h).keep hk, fun h => (hJ.2.2.2.2.2.2.2.2.2.1 h).keep hk, fun h => (hJ.2.2.2.2.2.2.2.2.2.2.1 h).keep hk, fun h => (hJ.2.2.2.2.2.2.2.2.2.2.2.1 h).keep hk, fun h => (hJ.2.2.2.2.2.2.2.2.2.2.2.2.1 h).put [.bool sv, .slice mv nv cv], fun _ h => no_more h, fun h => (hJ.2.2.2.2.2.2.2.2.2.2.2.2.2.2.1 h).put [.bool sv, .slice mv nv cv], fun h h' => (hJ.2.2.2.2.2.2.2.2.2.2.2.2.2.2.2.1 h h').put hg (hJ.2.2.2.2.2.2.2.2.2.2.2.2.2.2.2.2.1 (hN.1) (hN.2.2.1)) [.bool sv, .slice mv nv cv], hJ.2.2.2.2.2.2.2.2.2.2.2.2.2.2.2.2.1, fun _ => PV.set' [.bool sv, .slice mv nv cv] hg hv hbx hge rfl, fun h => (hJ.2.2.2.2.2.2.2.2.2.2.2.2.2.2.2.2.2.2 h).put hg (hJ.2.2.2.2.2.2.2.2.2.2.2.2.2.2.2.2.1 (hN.1) (hN.2.2.1)) [.bool sv, .slice mv nv cv]⟩
      | 11, _ =>
        refine StepAt.of (need := [9, 7, 8]) (later := []) (k := 6) (d := none) rfl rfl (by kernel_rfl) (by kernel_rfl) ?_
        intro L T wq ev a he hL hN hM hJ next hnext
        obtain ⟨g, hg, hge, hbx⟩ := hJ.2.2.2.2.2.2.2.2.2.2.2.2.2.2.2.1 (hN.1) hL
        obtain ⟨sv, mv, nv, cv, hv, iv⟩ := (hJ.2.2.2.2.2.2.2.2.2.2.2.1 (hN.2.1)).cells
        have e7 := (he.tmp 7).trans hg
        have e21 := (he.tmp 21).trans hv
        have hc0 := hbx.cell 0 rfl
        have hf0 := hbx.free 0
        have hc1 := hbx.cell 1 rfl
        have hf1 := hbx.free 1
        have hk := keeps_all hbx (by intro c hc z e; subst e; simp at hc) [.bool sv, .slice mv nv cv] rfl
        go_simp
        exact hnext undef _ ⟨below_all hge [.bool sv, .slice mv nv cv] 0 _ hJ.1, hJ.2.1, hJ.2.2.1, hJ.2.2.2.1, hJ.2.2.2.2.1, hJ.2.2.2.2.2.1, hJ.2.2.2.2.2.2.1, hJ.2.2.2.2.2.2.2.1, fun h => (hJ.2.2.2.2.2.2.2.2.1 h).keep hk, fun h => (hJ.2.2.2.2.2.2.2.2.2.1 h).keep hk, fun h => (hJ.2.2.2.2.2.2.2.2.2.2.1 h).keep hk, fun h => (hJ.2.2.2.2.2.2.2.2.2.2.2.1 h).keep hk, fun h => (hJ.2.2.2.2.2.2.2.2.2.2.2.2.1 h).put [.bool sv, .slice mv nv cv], fun h h' => (hJ.2.2.2.2.2.2.2.2.2.2.2.2.2.1 h h').put hg (Ne.symm (hJ.2.2.2.2.2.2.2.2.2.2.2.2.2.2.2.2.1 (hN.2.2.1) (hN.1))) [.bool sv, .slice mv nv cv], fun h => (hJ.2.2.2.2.2.2.2.2.2.2.2.2.2.2.1 h).put [.bool sv, .slice mv nv cv], fun _ h => no_more h, hJ.2.2.2.2.2.2.2.2.2.2.2.2.2.2.2.2.1, fun h => (hJ.2.2.2.2.2.2.2.2.2.2.2.2.2.2.2.2.2.1 h).put hg (Ne.symm (hJ.2.2.2.2.2.2.2.2.2.2.2.2.2.2.2.2.1 (hN.2.2.1) (hN.1))) [.bool sv, .slice mv nv cv], fun _ => PV.set' [.bool sv, .slice mv nv cv] hg hv hbx hge rfl⟩
      | k + 12, hi => exact absurd hi (Nat.not_lt.2 (Nat.le_add_left 12 k))
    · intro L a wq hA hJ hs hd hf
      obtain ⟨ga, cs0, hp0, hge0, hv0, hb0⟩ := hJ.2.2.2.2.2.2.2.2.2.2.2.2.2.2.2.2.2.1 (hA.2.2.2.2.2.2.2.2.2.2.1)
      have i0 := hJ.2.2.2.2.2.2.2.2.2.1 (hA.2.2.2.1)
      obtain ⟨s4, m4, n4, c4, hq0, i0⟩ := i0.cells
      rw [hq0, Value.agg.injEq] at hv0
      have hl0 : cs0 = _ := congrArg Array.toList hv0.symm
      subst hl0
      obtain ⟨gb, cs1, hp1, hge1, hv1, hb1⟩ := hJ.2.2.2.2.2.2.2.2.2.2.2.2.2.2.2.2.2.2 (hA.2.2.2.2.2.2.2.2.2.2.2.1)
      have i1 := hJ.2.2.2.2.2.2.2.2.2.2.2.1 (hA.2.2.2.2.2.2.2.1)
      obtain ⟨s5, m5, n5, c5, hq1, i1⟩ := i1.cells
      rw [hq1, Value.agg.injEq] at hv1
      have hl1 : cs1 = _ := congrArg Array.toList hv1.symm
      subst hl1
      have hne0_1 : ga ≠ gb := fun e => hJ.2.2.2.2.2.2.2.2.2.2.2.2.2.2.2.2.1 (hA.2.2.2.2.2.2.2.2.1) (hA.2.2.2.2.2.2.2.2.2.1) (hp0.trans (e ▸ hp1.symm))
      refine (by assumption : ∀ a' w', Met _ a' w' → _) _ _ (Met.intro ((by assumption : ∀ a' w', _ → _) _ _ ?_))
      exact ⟨a.tmps.getD 6 undef, a.tmps.getD 7 undef, a.tmps.getD 14 undef, a.tmps.getD 15 undef, a.tmps.getD 16 undef, a.tmps.getD 17 undef, a.tmps.getD 18 undef, a.tmps.getD 19 undef, a.tmps.getD 20 undef, a.tmps.getD 21 undef, a.tmps.getD 22 undef, a.tmps.getD 23 undef, a.tmps.getD 24 undef, a.tmps.getD 25 undef, a.tmps.getD 26 undef, a.tmps.getD 27 undef, a.tmps.getD 28 undef, a.tmps.getD 29 undef, a.tmps.getD 30 undef, a.tmps.getD 31 undef, a.tmps.getD 32 undef, a.tmps.getD 33 undef, a.tmps.getD 34 undef, a.tmps.getD 35 undef, a.tmps.getD 36 undef, a.tmps.getD 37 undef, a.tmps.getD 38 undef, a.tmps.getD 39 undef, a.tmps.getD 40 undef, a.tmps.getD 41 undef, ⟨ga, s4, m4, n4, c4, gb, s5, m5, n5, c5, hp0, hge0, hb0, i0, hp1, hge1, hb1, i1, hne0_1, hJ.1⟩, act_eq _ _ [6, 7, 14, 15, 16, 17, 18, 19, 20, 21, 22, 23, 24, 25, 26, 27, 28, 29, 30, 31, 32, 33, 34, 35, 36, 37, 38, 39, 40, 41] hf (by kernel_rfl) (hs.trans (by kernel_rfl)) hd (by kernel_rfl)⟩
  case rest =>
  obtain ⟨ga, s4, m4, n4, c4, gb, s5, m5, n5, c5, rfl, hge0, hbx0, hi0, rfl, hge1, hbx1, hi1, hne0_1, hb⟩ := hcut
  have LTS2 := hide (And.intro (And.intro (Nat.lt_of_lt_of_le P0.out.lt hge0) (And.intro (Nat.lt_of_lt_of_le P1.out.lt hge0) (And.intro (Nat.lt_of_lt_of_le P2.out.lt hge0) ((Nat.lt_of_lt_of_le Vg.out.lt hge0))))) (And.intro (And.intro (Nat.lt_of_lt_of_le P0.out.lt hge1) (And.intro (Nat.lt_of_lt_of_le P1.out.lt hge1) (And.intro (Nat.lt_of_lt_of_le P2.out.lt hge1) ((Nat.lt_of_lt_of_le Vg.out.lt hge1))))) (hne0_1)))
  replace I1 := hide (I1.out.below (hb))
  replace I2 := hide (I2.out.below (hb))
  replace P0 := hide (P0.out.step (hb))
  replace P1 := hide (P1.out.step (hb))
  replace P2 := hide (P2.out.step (hb))
  replace HB := hide (HB.out.trans ((hb).mono HB.out.size))
  replace Vg := hide (Vg.out.step (hb))
  replace TG := hide (TG.out.below (hb))
  have Va := hide hbx0
  have TA := hide hi0
  have Vb := hide hbx1
  have TB := hide hi1
  clear hb hge0 hbx0 hi0 hge1 hbx1 hi1 hne0_1
  generalize hwc : wc = wc2 at *
  clear hwc
  go_wp2_with fail
  go_cut [8] from 22 (fun pt0 wx => ∃ gr s6 m6 n6 c6 t6 o6 p6 d6, pt0 = .pointer (some ⟨gr, 0, none⟩) ∧ wc2.heap.size ≤ gr ∧ Box4 wx gr (.bool s6) (.slice m6 n6 c6) (.bool t6) (.slice o6 p6 d6) ∧ RatAt wx (.agg #[.bool s6, .slice m6 n6 c6, .bool t6, .slice o6 p6 d6]) (Rat.divInt (sS x y) (gdn x y)) ∧ Below wc2.heap.size wc2 wx)
  case first =>
    refine wp_facts (fun L T wq => Below wc2.heap.size wc2 wq ∧ T 2 = .pointer (some ⟨w.heap.size, 0, none⟩) ∧ T 3 = .pointer (some ⟨(w.heap.size + 1), 0, none⟩) ∧ T 5 = .pointer (some ⟨gg, 0, none⟩) ∧ T 6 = .pointer (some ⟨ga, 0, none⟩) ∧ T 7 = .pointer (some ⟨gb, 0, none⟩) ∧ (L 0 = true → T 22 = .pointer (some ⟨w.heap.size, 0, none⟩)) ∧ (L 1 = true → T 23 = .agg #[.bool s1, .slice m1 n1 c1]) ∧ (L 2 = true → T 24 = .agg #[.bool s5, .slice m5 n5 c5]) ∧ (L 4 = true → T 26 = .pointer (some ⟨(w.heap.size + 1), 0, none⟩)) ∧ (L 5 = true → T 27 = .agg #[.bool s2, .slice m2 n2 c2]) ∧ (L 6 = true → T 28 = .agg #[.bool s4, .slice m4 n4 c4]) ∧ (L 9 = true → T 31 = .agg #[.bool s3, .slice m3 n3 c3]) ∧ (L 3 = true → IntAt wq (T 25) (x.num * sB x y)) ∧ (L 7 = true → IntAt wq (T 29) (y.num * sA x y)) ∧ (L 8 = true → IntAt wq (T 30) (sS x y)) ∧ (L 10 = true → RatAt wq (T 32) (Rat.divInt (sS x y) (gdn x y))) ∧ (L 11 = true → PS wc2.heap.size wq (T 8)) ∧ (L 11 = true → L 12 = false → PB wc2.heap.size wq 27 (T 8) [.bool false, .slice none 0 0, .bool false, .slice none 0 0]) ∧ (L 12 = true → PV wc2.heap.size wq 27 (T 8) (T 32))) 42 [8, 22, 23, 24, 25, 26, 27, 28, 29, 30, 31, 32] [0, 1, 2, 3, 4, 5, 6, 7, 8, 9, 10, 11, 12] (by kernel_rfl) (by kernel_rfl) (by kernel_rfl) (by kernel_rfl) ?_ ?_ ?_
    · exact ⟨(Below.refl wc2.heap.size wc2).drew, rfl, rfl, rfl, rfl, rfl, no_yet, no_yet, no_yet, no_yet, no_yet, no_yet, no_yet, no_yet, no_yet, no_yet, no_yet, no_yet, no_yet, no_yet⟩
    · intro i hi
      match i, hi with
      | 0, _ =>
        refine StepAt.of (need := []) (later := []) (k := 6) (d := some 22) rfl rfl (by kernel_rfl) (by kernel_rfl) ?_
        intro L T wq ev a he hL hN hM hJ next hnext
        have e2 := (he.tmp 2).trans hJ.2.1
        go_simp
        exact hnext _ _ ⟨hJ.1, hJ.2.1, hJ.2.2.1, hJ.2.2.2.1, hJ.2.2.2.2.1, hJ.2.2.2.2.2.1, fun _ => rfl, hJ.2.2.2.2.2.2.2.1, hJ.2.2.2.2.2.2.2.2.1, hJ.2.2.2.2.2.2.2.2.2.1, hJ.2.2.2.2.2.2.2.2.2.2.1, hJ.2.2.2.2.2.2.2.2.2.2.2.1, hJ.2.2.2.2.2.2.2.2.2.2.2.2.1, hJ.2.2.2.2.2.2.2.2.2.2.2.2.2.1, hJ.2.2.2.2.2.2.2.2.2.2.2.2.2.2.1, hJ.2.2.2.2.2.2.2.2.2.2.2.2.2.2.2.1, hJ.2.2.2.2.2.2.2.2.2.2.2.2.2.2.2.2.1, hJ.2.2.2.2.2.2.2.2.2.2.2.2.2.2.2.2.2.1, hJ.2.2.2.2.2.2.2.2.2.2.2.2.2.2.2.2.2.2.1, hJ.2.2.2.2.2.2.2.2.2.2.2.2.2.2.2.2.2.2.2⟩
      | 1, _ =>
        refine StepAt.of (need := [0]) (later := []) (k := 6) (d := some 23) rfl rfl (by kernel_rfl) (by kernel_rfl) ?_
        intro L T wq ev a he hL hN hM hJ next hnext
        have e22 := (he.tmp 22).trans (hJ.2.2.2.2.2.2.1 (hN.1))
        have hcl0 := ((P0.out).step hJ.1).cell0
        have hcl1 := ((P0.out).step hJ.1).cell1
        go_simp
        exact hnext _ _ ⟨hJ.1, hJ.2.1, hJ.2.2.1, hJ.2.2.2.1, hJ.2.2.2.2.1, hJ.2.2.2.2.2.1, hJ.2.2.2.2.2.2.1, fun _ => rfl, hJ.2.2.2.2.2.2.2.2.1, hJ.2.2.2.2.2.2.2.2.2.1, hJ.2.2.2.2.2.2.2.2.2.2.1, hJ.2.2.2.2.2.2.2.2.2.2.2.1, hJ.2.2.2.2.2.2.2.2.2.2.2.2.1, hJ.2.2.2.2.2.2.2.2.2.2.2.2.2.1, hJ.2.2.2.2.2.2.2.2.2.2.2.2.2.2.1, hJ.2.2.2.2.2.2.2.2.2.2.2.2.2.2.2.1, hJ.2.2.2.2.2.2.2.2.2.2.2.2.2.2.2.2.1, hJ.2.2.2.2.2.2.2.2.2.2.2.2.2.2.2.2.2.1, hJ.2.2.2.2.2.2.2.2.2.2.2.2.2.2.2.2.2.2.1, hJ.2.2.2.2.2.2.2.2.2.2.2.2.2.2.2.2.2.2.2⟩
      | 2, _ =>
        refine StepAt.of (need := []) (later := []) (k := 6) (d := some 24) rfl rfl (by kernel_rfl) (by kernel_rfl) ?_
        intro L T wq ev a he hL hN hM hJ next hnext
        have e7 := (he.tmp 7).trans hJ.2.2.2.2.2.1
        have hcl0 := ((Vb.out).step hJ.1).cell0
        have hcl1 := ((Vb.out).step hJ.1).cell1
        go_simp
        exact hnext _ _ ⟨hJ.1, hJ.2.1, hJ.2.2.1, hJ.2.2.2.1, hJ.2.2.2.2.1, hJ.2.2.2.2.2.1, hJ.2.2.2.2.2.2.1, hJ.2.2.2.2.2.2.2.1, fun _ => rfl, hJ.2.2.2.2.2.2.2.2.2.1, hJ.2.2.2.2.2.2.2.2.2.2.1, hJ.2.2.2.2.2.2.2.2.2.2.2.1, hJ.2.2.2.2.2.2.2.2.2.2.2.2.1, hJ.2.2.2.2.2.2.2.2.2.2.2.2.2.1, hJ.2.2.2.2.2.2.2.2.2.2.2.2.2.2.1, hJ.2.2.2.2.2.2.2.2.2.2.2.2.2.2.2.1, hJ.2.2.2.2.2.2.2.2.2.2.2.2.2.2.2.2.1, hJ.2.2.2.2.2.2.2.2.2.2.2.2.2.2.2.2.2.1, hJ.2.2.2.2.2.2.2.2.2.2.2.2.2.2.2.2.2.2.1, hJ.2.2.2.2.2.2.2.2.2.2.2.2.2.2.2.2.2.2.2⟩
      | 3, _ =>
        refine StepAt.of (need := [1, 2]) (later := []) (k := 6) (d := some 25) rfl rfl (by kernel_rfl) (by kernel_rfl) ?_
        intro L T wq ev a he hL hN hM hJ next hnext
        have e23 := (he.tmp 23).trans (hJ.2.2.2.2.2.2.2.1 (hN.1))
        have e24 := (he.tmp 24).trans (hJ.2.2.2.2.2.2.2.2.1 (hN.2.1))
        have ef := he.func
        go_simp
        refine (imul_any _ _ x.num (sB x y) _ (I1.out.below hJ.1).num (TB.out.below hJ.1) (SzI.len HX.out.num (by decide)) (SzI.len SB.out (by decide))).mono ?_
        rintro e wq' ⟨v, rfl, i, hb⟩
        exact hnext _ _ ⟨hJ.1.trans ((hb).mono hJ.1.size), hJ.2.1, hJ.2.2.1, hJ.2.2.2.1, hJ.2.2.2.2.1, hJ.2.2.2.2.2.1, hJ.2.2.2.2.2.2.1, hJ.2.2.2.2.2.2.2.1, hJ.2.2.2.2.2.2.2.2.1, hJ.2.2.2.2.2.2.2.2.2.1, hJ.2.2.2.2.2.2.2.2.2.2.1, hJ.2.2.2.2.2.2.2.2.2.2.2.1, hJ.2.2.2.2.2.2.2.2.2.2.2.2.1, fun _ => i, fun h => (hJ.2.2.2.2.2.2.2.2.2.2.2.2.2.2.1 h).below (hb), fun h => (hJ.2.2.2.2.2.2.2.2.2.2.2.2.2.2.2.1 h).below (hb), fun h => (hJ.2.2.2.2.2.2.2.2.2.2.2.2.2.2.2.2.1 h).below (hb), fun h => (hJ.2.2.2.2.2.2.2.2.2.2.2.2.2.2.2.2.2.1 h).step (hb), fun h h' => (hJ.2.2.2.2.2.2.2.2.2.2.2.2.2.2.2.2.2.2.1 h h').step (hb), fun h => (hJ.2.2.2.2.2.2.2.2.2.2.2.2.2.2.2.2.2.2.2 h).step (hb)⟩
      | 4, _ =>
        refine StepAt.of (need := []) (later := []) (k := 6) (d := some 26) rfl rfl (by kernel_rfl) (by kernel_rfl) ?_
        intro L T wq ev a he hL hN hM hJ next hnext
        have e3 := (he.tmp 3).trans hJ.2.2.1
        go_simp
        exact hnext _ _ ⟨hJ.1, hJ.2.1, hJ.2.2.1, hJ.2.2.2.1, hJ.2.2.2.2.1, hJ.2.2.2.2.2.1, hJ.2.2.2.2.2.2.1, hJ.2.2.2.2.2.2.2.1, hJ.2.2.2.2.2.2.2.2.1, fun _ => rfl, hJ.2.2.2.2.2.2.2.2.2.2.1, hJ.2.2.2.2.2.2.2.2.2.2.2.1, hJ.2.2.2.2.2.2.2.2.2.2.2.2.1, hJ.2.2.2.2.2.2.2.2.2.2.2.2.2.1, hJ.2.2.2.2.2.2.2.2.2.2.2.2.2.2.1, hJ.2.2.2.2.2.2.2.2.2.2.2.2.2.2.2.1, hJ.2.2.2.2.2.2.2.2.2.2.2.2.2.2.2.2.1, hJ.2.2.2.2.2.2.2.2.2.2.2.2.2.2.2.2.2.1, hJ.2.2.2.2.2.2.2.2.2.2.2.2.2.2.2.2.2.2.1, hJ.2.2.2.2.2.2.2.2.2.2.2.2.2.2.2.2.2.2.2⟩
      | 5, _ =>
        refine StepAt.of (need := [4]) (later := []) (k := 6) (d := some 27) rfl rfl (by kernel_rfl) (by kernel_rfl) ?_
        intro L T wq ev a he hL hN hM hJ next hnext
        have e26 := (he.tmp 26).trans (hJ.2.2.2.2.2.2.2.2.2.1 (hN.1))
        have hcl0 := ((P1.out).step hJ.1).cell0
        have hcl1 := ((P1.out).step hJ.1).cell1
        go_simp
        exact hnext _ _ ⟨hJ.1, hJ.2.1, hJ.2.2.1, hJ.2.2.2.1, hJ.2.2.2.2.1, hJ.2.2.2.2.2.1, hJ.2.2.2.2.2.2.1, hJ.2.2.2.2.2.2.2.1, hJ.2.2.2.2.2.2.2.2.1, hJ.2.2.2.2.2.2.2.2.2.1, fun _ => rfl, hJ.2.2.2.2.2.2.2.2.2.2.2.1, hJ.2.2.2.2.2.2.2.2.2.2.2.2.1, hJ.2.2.2.2.2.2.2.2.2.2.2.2.2.1, hJ.2.2.2.2.2.2.2.2.2.2.2.2.2.2.1, hJ.2.2.2.2.2.2.2.2.2.2.2.2.2.2.2.1, hJ.2.2.2.2.2.2.2.2.2.2.2.2.2.2.2.2.1, hJ.2.2.2.2.2.2.2.2.2.2.2.2.2.2.2.2.2.1, hJ.2.2.2.2.2.2.2.2.2.2.2.2.2.2.2.2.2.2.1, hJ.2.2.2.2.2.2.2.2.2.2.2.2.2.2.2.2.2.2.2⟩
      | 6, _ =>
        refine StepAt.of (need := []) (later := []) (k := 6) (d := some 28) rfl rfl (by kernel_rfl) (by kernel_rfl) ?_
        intro L T wq ev a he hL hN hM hJ next hnext
        have e6 := (he.tmp 6).trans hJ.2.2.2.2.1
        have hcl0 := ((Va.out).step hJ.1).cell0
        have hcl1 := ((Va.out).step hJ.1).cell1
        go_simp
        exact hnext _ _ ⟨hJ.1, hJ.2.1, hJ.2.2.1, hJ.2.2.2.1, hJ.2.2.2.2.1, hJ.2.2.2.2.2.1, hJ.2.2.2.2.2.2.1, hJ.2.2.2.2.2.2.2.1, hJ.2.2.2.2.2.2.2.2.1, hJ.2.2.2.2.2.2.2.2.2.1, hJ.2.2.2.2.2.2.2.2.2.2.1, fun _ => rfl, hJ.2.2.2.2.2.2.2.2.2.2.2.2.1, hJ.2.2.2.2.2.2.2.2.2.2.2.2.2.1, hJ.2.2.2.2.2.2.2.2.2.2.2.2.2.2.1, hJ.2.2.2.2.2.2.2.2.2.2.2.2.2.2.2.1, hJ.2.2.2.2.2.2.2.2.2.2.2.2.2.2.2.2.1, hJ.2.2.2.2.2.2.2.2.2.2.2.2.2.2.2.2.2.1, hJ.2.2.2.2.2.2.2.2.2.2.2.2.2.2.2.2.2.2.1, hJ.2.2.2.2.2.2.2.2.2.2.2.2.2.2.2.2.2.2.2⟩
      | 7, _ =>
        refine StepAt.of (need := [5, 6]) (later := []) (k := 6) (d := some 29) rfl rfl (by kernel_rfl) (by kernel_rfl) ?_
        intro L T wq ev a he hL hN hM hJ next hnext
        have e27 := (he.tmp 27).trans (hJ.2.2.2.2.2.2.2.2.2.2.1 (hN.1))
        have e28 := (he.tmp 28).trans (hJ.2.2.2.2.2.2.2.2.2.2.2.1 (hN.2.1))
        have ef := he.func
        go_simp
        refine (imul_any _ _ y.num (sA x y) _ (I2.out.below hJ.1).num (TA.out.below hJ.1) (SzI.len HY.out.num (by decide)) (SzI.len SA.out (by decide))).mono ?_
        rintro e wq' ⟨v, rfl, i, hb⟩
        exact hnext _ _ ⟨hJ.1.trans ((hb).mono hJ.1.size), hJ.2.1, hJ.2.2.1, hJ.2.2.2.1, hJ.2.2.2.2.1, hJ.2.2.2.2.2.1, hJ.2.2.2.2.2.2.1, hJ.2.2.2.2.2.2.2.1, hJ.2.2.2.2.2.2.2.2.1, hJ.2.2.2.2.2.2.2.2.2.1, hJ.2.2.2.2.2.2.2.2.2.2.1, hJ.2.2.2.2.2.2.2.2.2.2.2.1, hJ.2.2.2.2.2.2.2.2.2.2.2.2.1, fun h => (hJ.2.2.2.2.2.2.2.2.2.2.2.2.2.1 h).below (hb), fun _ => i, fun h => (hJ.2.2.2.2.2.2.2.2.2.2.2.2.2.2.2.1 h).below (hb), fun h => (hJ.2.2.2.2.2.2.2.2.2.2.2.2.2.2.2.2.1 h).below (hb), fun h => (hJ.2.2.2.2.2.2.2.2.2.2.2.2.2.2.2.2.2.1 h).step (hb), fun h h' => (hJ.2.2.2.2.2.2.2.2.2.2.2.2.2.2.2.2.2.2.1 h h').step (hb), fun h => (hJ.2.2.2.2.2.2.2.2.2.2.2.2.2.2.2.2.2.2.2 h).step (hb)⟩
      | 8, _ =>
        refine StepAt.of (need := [3, 7]) (later := []) (k := 6) (d := some 30) rfl rfl (by kernel_rfl) (by kernel_rfl) ?_
        intro L T wq ev a he hL hN hM hJ next hnext
        have e25 := he.tmp 25
        have e29 := he.tmp 29
        have ef := he.func
        go_simp
        refine (iadd_any _ _ (x.num * sB x y) (y.num * sA x y) _ (hJ.2.2.2.2.2.2.2.2.2.2.2.2.2.1 (hN.1)) (hJ.2.2.2.2.2.2.2.2.2.2.2.2.2.2.1 (hN.2.1)) (SzI.len (HX.out.num.mul SB.out) (by decide)) (SzI.len (HY.out.num.mul SA.out) (by decide))).mono ?_
        rintro e wq' ⟨v, rfl, i, hb⟩
        exact hnext _ _ ⟨hJ.1.trans ((hb).mono hJ.1.size), hJ.2.1, hJ.2.2.1, hJ.2.2.2.1, hJ.2.2.2.2.1, hJ.2.2.2.2.2.1, hJ.2.2.2.2.2.2.1, hJ.2.2.2.2.2.2.2.1, hJ.2.2.2.2.2.2.2.2.1, hJ.2.2.2.2.2.2.2.2.2.1, hJ.2.2.2.2.2.2.2.2.2.2.1, hJ.2.2.2.2.2.2.2.2.2.2.2.1, hJ.2.2.2.2.2.2.2.2.2.2.2.2.1, fun h => (hJ.2.2.2.2.2.2.2.2.2.2.2.2.2.1 h).below (hb), fun h => (hJ.2.2.2.2.2.2.2.2.2.2.2.2.2.2.1 h).below (hb), fun _ => i, fun h => (hJ.2.2.2.2.2.2.2.2.2.2.2.2.2.2.2.2.1 h).below (hb), fun h => (hJ.2.2.2.2.2.2.2.2.2.2.2.2.2.2.2.2.2.1 h).step (hb), fun h h' => (hJ.2.2.2.2.2.2.2.2.2.2.2.2.2.2.2.2.2.2.1 h h').step (hb), fun h => (hJ.2.2.2.2.2.2.2.2.2.2.2.2.2.2.2.2.2.2.2 h).step (hb)⟩
      | 9, _ =>
        refine StepAt.of (need := []) (later := []) (k := 6) (d := some 31) rfl rfl (by kernel_rfl) (by kernel_rfl) ?_
        intro L T wq ev a he hL hN hM hJ next hnext
        have e5 := (he.tmp 5).trans hJ.2.2.2.1
        have hcl0 := ((Vg.out).step hJ.1).cell0
        have hcl1 := ((Vg.out).step hJ.1).cell1
        go_simp
        exact hnext _ _ ⟨hJ.1, hJ.2.1, hJ.2.2.1, hJ.2.2.2.1, hJ.2.2.2.2.1, hJ.2.2.2.2.2.1, hJ.2.2.2.2.2.2.1, hJ.2.2.2.2.2.2.2.1, hJ.2.2.2.2.2.2.2.2.1, hJ.2.2.2.2.2.2.2.2.2.1, hJ.2.2.2.2.2.2.2.2.2.2.1, hJ.2.2.2.2.2.2.2.2.2.2.2.1, fun _ => rfl, hJ.2.2.2.2.2.2.2.2.2.2.2.2.2.1, hJ.2.2.2.2.2.2.2.2.2.2.2.2.2.2.1, hJ.2.2.2.2.2.2.2.2.2.2.2.2.2.2.2.1, hJ.2.2.2.2.2.2.2.2.2.2.2.2.2.2.2.2.1, hJ.2.2.2.2.2.2.2.2.2.2.2.2.2.2.2.2.2.1, hJ.2.2.2.2.2.2.2.2.2.2.2.2.2.2.2.2.2.2.1, hJ.2.2.2.2.2.2.2.2.2.2.2.2.2.2.2.2.2.2.2⟩
      | 10, _ =>
        refine StepAt.of (need := [8, 9]) (later := [12]) (k := 6) (d := some 32) rfl rfl (by kernel_rfl) (by kernel_rfl) ?_
        intro L T wq ev a he hL hN hM hJ next hnext
        have e30 := he.tmp 30
        have e31 := (he.tmp 31).trans (hJ.2.2.2.2.2.2.2.2.2.2.2.2.1 (hN.2.1))
        have ef := he.func
        go_simp
        refine (lowest_any _ _ (sS x y) (gdn x y) _ (hJ.2.2.2.2.2.2.2.2.2.2.2.2.2.2.2.1 (hN.1)) (TG.out.below hJ.1) (SzI.len SS.out (by decide)) (SzI.len SG.out (by decide)) HG0.out).mono ?_
        rintro e wq' ⟨v, rfl, i, hb⟩
        exact hnext _ _ ⟨hJ.1.trans ((hb).mono hJ.1.size), hJ.2.1, hJ.2.2.1, hJ.2.2.2.1, hJ.2.2.2.2.1, hJ.2.2.2.2.2.1, hJ.2.2.2.2.2.2.1, hJ.2.2.2.2.2.2.2.1, hJ.2.2.2.2.2.2.2.2.1, hJ.2.2.2.2.2.2.2.2.2.1, hJ.2.2.2.2.2.2.2.2.2.2.1, hJ.2.2.2.2.2.2.2.2.2.2.2.1, hJ.2.2.2.2.2.2.2.2.2.2.2.2.1, fun h => (hJ.2.2.2.2.2.2.2.2.2.2.2.2.2.1 h).below (hb), fun h => (hJ.2.2.2.2.2.2.2.2.2.2.2.2.2.2.1 h).below (hb), fun h => (hJ.2.2.2.2.2.2.2.2.2.2.2.2.2.2.2.1 h).below (hb), fun _ => i, fun h => (hJ.2.2.2.2.2.2.2.2.2.2.2.2.2.2.2.2.2.1 h).step (hb), fun h h' => (hJ.2.2.2.2.2.2.2.2.2.2.2.2.2.2.2.2.2.2.1 h h').step (hb), fun h => clash (hM.1) h⟩
      | 11, _ =>
        refine StepAt.of (need := []) (later := [12]) (k := 6) (d := some 8) rfl rfl (by kernel_rfl) (by kernel_rfl) ?_
        intro L T wq ev a he hL hN hM hJ next hnext
        go_simp
        have hb := below_alloc wq (.cells #[.bool false, .slice none 0 0, .bool false, .slice none 0 0] 27)
        exact hnext _ _ ⟨hJ.1.trans ((hb).mono hJ.1.size), hJ.2.1, hJ.2.2.1, hJ.2.2.2.1, hJ.2.2.2.2.1, hJ.2.2.2.2.2.1, hJ.2.2.2.2.2.2.1, hJ.2.2.2.2.2.2.2.1, hJ.2.2.2.2.2.2.2.2.1, hJ.2.2.2.2.2.2.2.2.2.1, hJ.2.2.2.2.2.2.2.2.2.2.1, hJ.2.2.2.2.2.2.2.2.2.2.2.1, hJ.2.2.2.2.2.2.2.2.2.2.2.2.1, fun h => (hJ.2.2.2.2.2.2.2.2.2.2.2.2.2.1 h).below (hb), fun h => (hJ.2.2.2.2.2.2.2.2.2.2.2.2.2.2.1 h).below (hb), fun h => (hJ.2.2.2.2.2.2.2.2.2.2.2.2.2.2.2.1 h).below (hb), fun h => (hJ.2.2.2.2.2.2.2.2.2.2.2.2.2.2.2.2.1 h).below (hb), fun _ => PS.new hJ.1.size _, fun _ _ => PB.new hJ.1.size _ [.bool false, .slice none 0 0, .bool false, .slice none 0 0], fun h => clash (hM.1) h⟩
      | 12, _ =>
        refine StepAt.of (need := [11, 10]) (later := []) (k := 6) (d := none) rfl rfl (by kernel_rfl) (by kernel_rfl) ?_
        intro L T wq ev a he hL hN hM hJ next hnext
        obtain ⟨g, hg, hge, hbx⟩ := hJ.2.2.2.2.2.2.2.2.2.2.2.2.2.2.2.2.2.2.1 (hN.1) hL
        obtain ⟨sv, mv, nv, cv, sv', mv', nv', cv', hv, iv⟩ := (hJ.2.2.2.2.2.2.2.2.2.2.2.2.2.2.2.2.1 (hN.2.1)).cells
        have e8 := (he.tmp 8).trans hg
        have e32 := (he.tmp 32).trans hv
        have hc0 := hbx.cell 0 rfl
        have hf0 := hbx.free 0
        have hc1 := hbx.cell 1 rfl
        have hf1 := hbx.free 1
        have hc2 := hbx.cell 2 rfl
        have hf2 := hbx.free 2
        have hc3 := hbx.cell 3 rfl
        have hf3 := hbx.free 3
        have hk := keeps_all hbx (by intro c hc z e; subst e; simp at hc) [.bool sv, .slice mv nv cv, .bool sv', .slice mv' nv' cv'] rfl
        go_simp
        exact hnext undef _ ⟨below_all hge [.bool sv, .slice mv nv cv, .bool sv', .slice mv' nv' cv'] 0 _ hJ.1, hJ.2.1, hJ.2.2.1, hJ.2.2.2.1, hJ.2.2.2.2.1, hJ.2.2.2.2.2.1, hJ.2.2.2.2.2.2.1, hJ.2.2.2.2.2.2.2.1, hJ.2.2.2.2.2.2.2.2.1, hJ.2.2.2.2.2.2.2.2.2.1, hJ.2.2.2.2.2.2.2.2.2.2.1, hJ.2.2.2.2.2.2.2.2.2.2.2.1, hJ.2.2.2.2.2.2.2.2.2.2.2.2.1, fun h => (hJ.2.2.2.2.2.2.2.2.2.2.2.2.2.1 h).keep hk, fun h => (hJ.2.2.2.2.2.2.2.2.2.2.2.2.2.2.1 h).keep hk, fun h => (hJ.2.2.2.2.2.2.2.2.2.2.2.2.2.2.2.1 h).keep hk, fun h => (hJ.2.2.2.2.2.2.2.2.2.2.2.2.2.2.2.2.1 h).keep hk, fun h => (hJ.2.2.2.2.2.2.2.2.2.2.2.2.2.2.2.2.2.1 h).put [.bool sv, .slice mv nv cv, .bool sv', .slice mv' nv' cv'], fun _ h => no_more h, fun _ => PV.set' [.bool sv, .slice mv nv cv, .bool sv', .slice mv' nv' cv'] hg hv hbx hge rfl⟩
      | k + 13, hi => exact absurd hi (Nat.not_lt.2 (Nat.le_add_left 13 k))
    · intro L a wq hA hJ hs hd hf
      obtain ⟨gr, cs0, hp0, hge0, hv0, hb0⟩ := hJ.2.2.2.2.2.2.2.2.2.2.2.2.2.2.2.2.2.2.2 (hA.2.2.2.2.2.2.2.2.2.2.2.2.1)
      have i0 := hJ.2.2.2.2.2.2.2.2.2.2.2.2.2.2.2.2.1 (hA.2.2.2.2.2.2.2.2.2.2.1)
      obtain ⟨s6, m6, n6, c6, t6, o6, p6, d6, hq0, i0⟩ := i0.cells
      rw [hq0, Value.agg.injEq] at hv0
      have hl0 : cs0 = _ := congrArg Array.toList hv0.symm
      subst hl0
      refine (by assumption : ∀ a' w', Met _ a' w' → _) _ _ (Met.intro ((by assumption : ∀ a' w', _ → _) _ _ ?_))
      exact ⟨a.tmps.getD 8 undef, a.tmps.getD 22 undef, a.tmps.getD 23 undef, a.tmps.getD 24 undef, a.tmps.getD 25 undef, a.tmps.getD 26 undef, a.tmps.getD 27 undef, a.tmps.getD 28 undef, a.tmps.getD 29 undef, a.tmps.getD 30 undef, a.tmps.getD 31 undef, a.tmps.getD 32 undef, a.tmps.getD 33 undef, a.tmps.getD 34 undef, a.tmps.getD 35 undef, a.tmps.getD 36 undef, a.tmps.getD 37 undef, a.tmps.getD 38 undef, a.tmps.getD 39 undef, a.tmps.getD 40 undef, a.tmps.getD 41 undef, ⟨gr, s6, m6, n6, c6, t6, o6, p6, d6, hp0, hge0, hb0, i0, hJ.1⟩, act_eq _ _ [8, 22, 23, 24, 25, 26, 27, 28, 29, 30, 31, 32, 33, 34, 35, 36, 37, 38, 39, 40, 41] hf (by kernel_rfl) (hs.trans (by kernel_rfl)) hd (by kernel_rfl)⟩
  case rest =>
  obtain ⟨gr, s6, m6, n6, c6, t6, o6, p6, d6, rfl, hge0, hbx0, hi0, hb⟩ := hcut
  have LTS3 := hide ((And.intro (Nat.lt_of_lt_of_le P0.out.lt hge0) (And.intro (Nat.lt_of_lt_of_le P1.out.lt hge0) (And.intro (Nat.lt_of_lt_of_le P2.out.lt hge0) (And.intro (Nat.lt_of_lt_of_le Vg.out.lt hge0) (And.intro (Nat.lt_of_lt_of_le Va.out.lt hge0) ((Nat.lt_of_lt_of_le Vb.out.lt hge0))))))))
  replace I1 := hide (I1.out.below (hb))
  replace I2 := hide (I2.out.below (hb))
  replace P0 := hide (P0.out.step (hb))
  replace P1 := hide (P1.out.step (hb))
  replace P2 := hide (P2.out.step (hb))
  replace HB := hide (HB.out.trans ((hb).mono HB.out.size))
  replace Vg := hide (Vg.out.step (hb))
  replace TG := hide (TG.out.below (hb))
  replace Va := hide (Va.out.step (hb))
  replace TA := hide (TA.out.below (hb))
  replace Vb := hide (Vb.out.step (hb))
  replace TB := hide (TB.out.below (hb))
  have Vr := hide hbx0
  have TR := hide hi0
  clear hb hge0 hbx0 hi0
  generalize hwc : wc = wc3 at *
  clear hwc
  go_wp2_with fail
  have LTS := hide (And.intro LTS2.out LTS3.out)
  replace P2 := hide P2.out.drew
  refine wp_calm (fun w' => Below w.heap.size w w' ∧ Box w' ga (.bool s4) (.slice m4 n4 c4) ∧ Box w' gb (.bool s5) (.slice m5 n5 c5) ∧ Box4 w' gr (.bool s6) (.slice m6 n6 c6) (.bool t6) (.slice o6 p6 d6) ∧ IntAt w' (.agg #[.bool s4, .slice m4 n4 c4]) (sA x y) ∧ IntAt w' (.agg #[.bool s5, .slice m5 n5 c5]) (sB x y) ∧ RatAt w' (.agg #[.bool s6, .slice m6 n6 c6, .bool t6, .slice o6 p6 d6]) (Rat.divInt (sS x y) (gdn x y))) (fun _ => true) 10 #[false, false, false, false, false, false, false, false, false, false] (by kernel_rfl) rfl rfl ?_
  have HF := hide (And.intro (HB.out.drew) (And.intro (Va.out.drew) (And.intro (Vb.out.drew) (And.intro (Vr.out.drew) (And.intro (TA.out.drew) (And.intro (TB.out.drew) (TR.out.drew)))))))
  generalize wc3.drew = wc3d at *
  refine Calm.take (i := 0) (v := ?_) (a' := ?_) (l' := #[true, false, false, false, false, false, false, false, false, false]) (d := some 33) rfl (by kernel_rfl) (by kernel_rfl) (by kernel_rfl) (by kernel_rfl) (fun _ _ _ h => h) HF.out rfl ?_ rfl rfl ?_ ?_
  rotate_left
  · intro w' hF; clear hF; go_simp; try rfl
  rotate_left
  · simp only [Act.put]; exact rfl
  refine Calm.take (i := 1) (v := ?_) (a' := ?_) (l' := #[true, true, false, false, false, false, false, false, false, false]) (d := some 34) rfl (by kernel_rfl) (by kernel_rfl) (by kernel_rfl) (by kernel_rfl) (fun _ _ _ h => h) HF.out rfl ?_ rfl rfl ?_ ?_
  rotate_left
  · intro w' hF; have f10 := hF.2.1.cell0; have f11 := hF.2.1.cell1; have f20 := hF.2.2.1.cell0; have f21 := hF.2.2.1.cell1; have f30 := hF.2.2.2.1.cell0; have f31 := hF.2.2.2.1.cell1; have f32 := hF.2.2.2.1.cell2; have f33 := hF.2.2.2.1.cell3; clear hF; go_simp; try rfl
  rotate_left
  · simp only [Act.put]; exact rfl
  refine Calm.take (i := 2) (v := ?_) (a' := ?_) (l' := #[true, true, true, false, false, false, false, false, false, false]) (d := some 35) rfl (by kernel_rfl) (by kernel_rfl) (by kernel_rfl) (by kernel_rfl) (fun _ _ _ h => h) HF.out rfl ?_ rfl rfl ?_ ?_
  rotate_left
  · intro w' hF; have f10 := hF.2.1.cell0; have f11 := hF.2.1.cell1; have f20 := hF.2.2.1.cell0; have f21 := hF.2.2.1.cell1; have f30 := hF.2.2.2.1.cell0; have f31 := hF.2.2.2.1.cell1; have f32 := hF.2.2.2.1.cell2; have f33 := hF.2.2.2.1.cell3; clear hF; go_simp; try rfl
  rotate_left
  · simp only [Act.put]; exact rfl
  refine Calm.take (i := 3) (v := ?_) (a' := ?_) (l' := #[true, true, true, true, false, false, false, false, false, false]) (d := some 36) rfl (by kernel_rfl) (by kernel_rfl) (by kernel_rfl) (by kernel_rfl) (fun _ _ _ h => h) HF.out rfl ?_ rfl rfl ?_ ?_
  rotate_left
  · intro w' hF; have f10 := hF.2.1.cell0; have f11 := hF.2.1.cell1; have f20 := hF.2.2.1.cell0; have f21 := hF.2.2.1.cell1; have f30 := hF.2.2.2.1.cell0; have f31 := hF.2.2.2.1.cell1; have f32 := hF.2.2.2.1.cell2; have f33 := hF.2.2.2.1.cell3; clear hF; go_simp; try rfl
  rotate_left
  · simp only [Act.put]; exact rfl
  refine Calm.take (i := 4) (v := ?_) (a' := ?_) (l' := #[true, true, true, true, true, false, false, false, false, false]) (d := some 37) rfl (by kernel_rfl) (by kernel_rfl) (by kernel_rfl) (by kernel_rfl) (fun _ _ _ h => h) HF.out rfl ?_ rfl rfl ?_ ?_
  rotate_left
  · intro w' hF; have f10 := hF.2.1.cell0; have f11 := hF.2.1.cell1; have f20 := hF.2.2.1.cell0; have f21 := hF.2.2.1.cell1; have f30 := hF.2.2.2.1.cell0; have f31 := hF.2.2.2.1.cell1; have f32 := hF.2.2.2.1.cell2; have f33 := hF.2.2.2.1.cell3; clear hF; go_simp; try rfl
  rotate_left
  · simp only [Act.put]; exact rfl
  refine Calm.one (i := 5) (l' := #[true, true, true, true, true, true, false, false, false, false]) (by kernel_rfl) rfl rfl rfl fun K hK => ?_
  go_simp
  refine (den_any _ (Rat.divInt (sS x y) (gdn x y)) _ HF.out.2.2.2.2.2.2).mono ?_
  rintro e u1 ⟨v, rfl, n, hb⟩
  obtain ⟨s7, m7, n7, c7, rfl, n⟩ := n.cells
  replace P2 := hide (P2.out.step (hb))
  have HF' := hide (And.intro (HF.out.1.trans ((hb).mono HF.out.1.size)) (And.intro (HF.out.2.1.step (hb)) (And.intro (HF.out.2.2.1.step (hb)) (And.intro (HF.out.2.2.2.1.step (hb)) (And.intro (HF.out.2.2.2.2.1.below (hb)) (And.intro (HF.out.2.2.2.2.2.1.below (hb)) (HF.out.2.2.2.2.2.2.below (hb))))))))
  have T1 := hide (n)
  refine hK _ _ (fun _ => HF'.out) ?_
  clear hK K HF hb n
  have HF := hide HF'.out
  clear HF'
  refine Calm.one (i := 6) (l' := #[true, true, true, true, true, true, true, false, false, false]) (by kernel_rfl) rfl rfl rfl fun K hK => ?_
  go_simp
  have al := below_alloc u1 (.cells #[.bool s4, .slice m4 n4 c4, .bool s5, .slice m5 n5 c5, .bool s7, .slice m7 n7 c7] 25)
  have HF' := hide (And.intro (HF.out.1.trans ((al).mono HF.out.1.size)) (And.intro (HF.out.2.1.step (al)) (And.intro (HF.out.2.2.1.step (al)) (And.intro (HF.out.2.2.2.1.step (al)) (And.intro (HF.out.2.2.2.2.1.below (al)) (And.intro (HF.out.2.2.2.2.2.1.below (al)) (HF.out.2.2.2.2.2.2.below (al))))))))
  have BXl := hide (ints_lit3 (t := 25) HF.out.2.2.2.2.1 HF.out.2.2.2.2.2.1 T1.out)
  replace P2 := hide (P2.out.step (al))
  replace T1 := hide (T1.out.below (al))
  have LT1l := hide (HF.out.2.1.lt)
  have LT2l := hide (HF.out.2.2.1.lt)
  have LT3l := hide (HF.out.2.2.2.1.lt)
  have GEl := hide (HF.out.1.size)
  refine hK _ _ (fun _ => HF'.out) ?_
  clear hK K HF al
  have HF := hide HF'.out
  clear HF'
  generalize u1.alloc (.cells #[.bool s4, .slice m4 n4 c4, .bool s5, .slice m5 n5 c5, .bool s7, .slice m7 n7 c7] 25) = wzl at *
  generalize u1.heap.size = gl at *
  refine Calm.one (i := 7) (l' := #[true, true, true, true, true, true, true, true, false, false]) (by kernel_rfl) rfl rfl rfl fun K hK => ?_
  go_simp
  refine (iproduct_big _ (sA x y) (sB x y) ((Rat.divInt (sS x y) (gdn x y)).den : Int) _ BXl.out (SA.out) (SB.out) DR.out.2).mono ?_
  rintro e u2 ⟨v, rfl, n, hb⟩
  replace P2 := hide (P2.out.step (hb))
  replace T1 := hide (T1.out.below (hb))
  replace BXl := hide (BXl.out.below hb)
  have HF' := hide (And.intro (HF.out.1.trans ((hb).mono HF.out.1.size)) (And.intro (HF.out.2.1.step (hb)) (And.intro (HF.out.2.2.1.step (hb)) (And.intro (HF.out.2.2.2.1.step (hb)) (And.intro (HF.out.2.2.2.2.1.below (hb)) (And.intro (HF.out.2.2.2.2.2.1.below (hb)) (HF.out.2.2.2.2.2.2.below (hb))))))))
  have T2 := hide (n)
  refine hK _ _ (fun _ => HF'.out) ?_
  clear hK K HF hb n
  have HF := hide HF'.out
  clear HF'
  refine Calm.one (i := 8) (l' := #[true, true, true, true, true, true, true, true, true, false]) (by kernel_rfl) rfl rfl rfl fun K hK => ?_
  go_simp
  refine (rmade_any _ _ (x + y) _ (by rw [(add_terms x y).1]; exact HF.out.2.2.2.2.2.2.num) (by rw [(add_terms x y).2]; exact T2.out)).mono ?_
  rintro e u3 ⟨v, rfl, n, hb⟩
  obtain ⟨s9, m9, n9, c9, t9, o9, p9, d9, rfl, n⟩ := n.cells
  replace P2 := hide (P2.out.step (hb))
  clear T1
  clear T2
  replace BXl := hide (BXl.out.below hb)
  have HF' := hide (And.intro (HF.out.1.trans ((hb).mono HF.out.1.size)) (And.intro (HF.out.2.1.step (hb)) (And.intro (HF.out.2.2.1.step (hb)) (And.intro (HF.out.2.2.2.1.step (hb)) (And.intro (HF.out.2.2.2.2.1.below (hb)) (And.intro (HF.out.2.2.2.2.2.1.below (hb)) (HF.out.2.2.2.2.2.2.below (hb))))))))
  have TQ := hide (n)
  refine hK _ _ (fun _ => HF'.out) ?_
  clear hK K HF hb n
  have HF := hide HF'.out
  clear HF'
  refine Calm.one (i := 9) (l' := #[true, true, true, true, true, true, true, true, true, true]) (by kernel_rfl) rfl rfl rfl fun K hK => ?_
  have hc0 := P2.out.cell0
  have hc1 := P2.out.cell1
  have hc2 := P2.out.cell2
  have hc3 := P2.out.cell3
  have hf0 := P2.out.free 0
  have hf1 := P2.out.free 1
  have hf2 := P2.out.free 2
  have hf3 := P2.out.free 3
  go_simp
  have HF' := hide (And.intro (below_put4 HF.out.1 (show w.heap.size ≤ (w.heap.size + 1 + 1) by have hx := LTS.out; omega) (.bool s9) (.slice m9 n9 c9) (.bool t9) (.slice o9 p9 d9)) (And.intro (HF.out.2.1.other4 (C := (w.heap.size + 1 + 1)) (by have hx := LTS.out; omega) (.bool s9) (.slice m9 n9 c9) (.bool t9) (.slice o9 p9 d9)) (And.intro (HF.out.2.2.1.other4 (C := (w.heap.size + 1 + 1)) (by have hx := LTS.out; omega) (.bool s9) (.slice m9 n9 c9) (.bool t9) (.slice o9 p9 d9)) (And.intro (HF.out.2.2.2.1.other4 (C := (w.heap.size + 1 + 1)) (by have hx := LTS.out; omega) (.bool s9) (.slice m9 n9 c9) (.bool t9) (.slice o9 p9 d9)) (And.intro (HF.out.2.2.2.2.1.keep (P2.out.keeps (by simp) (by simp) (by simp) (by simp) (.bool s9) (.slice m9 n9 c9) (.bool t9) (.slice o9 p9 d9))) (And.intro (HF.out.2.2.2.2.2.1.keep (P2.out.keeps (by simp) (by simp) (by simp) (by simp) (.bool s9) (.slice m9 n9 c9) (.bool t9) (.slice o9 p9 d9))) (HF.out.2.2.2.2.2.2.keep (P2.out.keeps (by simp) (by simp) (by simp) (by simp) (.bool s9) (.slice m9 n9 c9) (.bool t9) (.slice o9 p9 d9)))))))))
  replace TQ := hide (TQ.out.keep (P2.out.keeps (by simp) (by simp) (by simp) (by simp) (.bool s9) (.slice m9 n9 c9) (.bool t9) (.slice o9 p9 d9)))
  clear BXl
  replace P2 := hide (P2.out.put (.bool s9) (.slice m9 n9 c9) (.bool t9) (.slice o9 p9 d9))
  refine hK _ _ (fun _ => HF'.out) ?_
  clear hK K HF hc0 hf0 hc1 hf1 hc2 hf2 hc3 hf3
  have HF := hide HF'.out
  clear HF'
  generalize ((((u3.setCell ⟨(w.heap.size + 1 + 1), 0, none⟩ (.bool s9)).setCell ⟨(w.heap.size + 1 + 1), 1, none⟩ (.slice m9 n9 c9)).setCell ⟨(w.heap.size + 1 + 1), 2, none⟩ (.bool t9)).setCell ⟨(w.heap.size + 1 + 1), 3, none⟩ (.slice o9 p9 d9)) = u8 at *
  refine Calm.done (by kernel_rfl) ?_
  replace HB := hide HF.out.1
  replace Va := hide HF.out.2.1
  replace Vb := hide HF.out.2.2.1
  replace Vr := hide HF.out.2.2.2.1
  replace TA := hide HF.out.2.2.2.2.1
  replace TB := hide HF.out.2.2.2.2.2.1
  replace TR := hide HF.out.2.2.2.2.2.2
  clear HF
  clear I1
  clear I2
  clear P0
  clear P1
  clear Vg
  clear TG
  go_wp2
  refine ret_rat rfl (w.heap.size + 1 + 1) _ _ _ _ rfl P2.out rfl ?_
  exact ⟨_, rfl, TQ.out, HB.out⟩

set_option maxRecDepth 100000 in
set_option maxHeartbeats 4000000 in
theorem rtsub_any (v1 v2 : Value) (x y : Rat) (w : World) (h1 : RatAt w v1 x) (h2 : RatAt w v2 y) (hx : SzR 100000000 x) (hy : SzR 100000000 y) :
    Calls Try.prog 21 #[v1, v2] w fun e w' => ∃ v', e = .returned v' ∧ RatAt w' v' (x - y) ∧ Below w.heap.size w w' := by
  have HX := hide hx
  have HY := hide hy
  clear hx hy
  obtain ⟨s1, m1, n1, c1, t1, o1, p1, d1, rfl, i1⟩ := h1.cells
  have I1 := hide i1
  clear h1 i1
  obtain ⟨s2, m2, n2, c2, t2, o2, p2, d2, rfl, i2⟩ := h2.cells
  have I2 := hide i2
  clear h2 i2
  have P0 := Box4.new w (.bool s1) (.slice m1 n1 c1) (.bool t1) (.slice o1 p1 d1)
  replace P0 := P0.step (below_alloc _ (.cells #[.bool s2, .slice m2 n2 c2, .bool t2, .slice o2 p2 d2] 27))
  replace P0 := P0.step (below_alloc _ (.cells #[.bool false, .slice none 0 0, .bool false, .slice none 0 0] 27))
  replace P0 := hide P0
  have P1 := Box4.new (w.alloc (.cells #[.bool s1, .slice m1 n1 c1, .bool t1, .slice o1 p1 d1] 27)) (.bool s2) (.slice m2 n2 c2) (.bool t2) (.slice o2 p2 d2)
  simp only [World.size_alloc] at P1
  replace P1 := P1.step (below_alloc _ (.cells #[.bool false, .slice none 0 0, .bool false, .slice none 0 0] 27))
  replace P1 := hide P1
  have P2 := Box4.new ((w.alloc (.cells #[.bool s1, .slice m1 n1 c1, .bool t1, .slice o1 p1 d1] 27)).alloc (.cells #[.bool s2, .slice m2 n2 c2, .bool t2, .slice o2 p2 d2] 27)) (.bool false) (.slice none 0 0) (.bool false) (.slice none 0 0)
  simp only [World.size_alloc] at P2
  replace P2 := hide P2
  have HB := below_alloc w (.cells #[.bool s1, .slice m1 n1 c1, .bool t1, .slice o1 p1 d1] 27)
  replace HB := HB.trans ((below_alloc _ (.cells #[.bool s2, .slice m2 n2 c2, .bool t2, .slice o2 p2 d2] 27)).mono (by simp only [World.size_alloc]; omega))
  replace HB := HB.trans ((below_alloc _ (.cells #[.bool false, .slice none 0 0, .bool false, .slice none 0 0] 27)).mono (by simp only [World.size_alloc]; omega))
  replace I1 := hide (I1.out.below HB)
  replace I2 := hide (I2.out.below HB)
  replace HB := hide HB
  go_enter Try.func21, Try.ntmps21
  go_wp2_with fail
  generalize (((w.alloc (.cells #[.bool s1, .slice m1 n1 c1, .bool t1, .slice o1 p1 d1] 27)).alloc (.cells #[.bool s2, .slice m2 n2 c2, .bool t2, .slice o2 p2 d2] 27)).alloc (.cells #[.bool false, .slice none 0 0, .bool false, .slice none 0 0] 27)) = w0 at *
  have LTS : Hid True := hide trivial
  replace P2 := hide P2.out.drew
  refine wp_calm (fun w' => Below w.heap.size w w' ∧ Box4 w' w.heap.size (.bool s1) (.slice m1 n1 c1) (.bool t1) (.slice o1 p1 d1) ∧ Box4 w' (w.heap.size + 1) (.bool s2) (.slice m2 n2 c2) (.bool t2) (.slice o2 p2 d2) ∧ RatAt w' (.agg #[.bool s1, .slice m1 n1 c1, .bool t1, .slice o1 p1 d1]) x ∧ RatAt w' (.agg #[.bool s2, .slice m2 n2 c2, .bool t2, .slice o2 p2 d2]) y) (fun _ => true) 5 #[false, false, false, false, false] (by kernel_rfl) rfl rfl ?_
  have HF := hide (And.intro (HB.out.drew) (And.intro (P0.out.drew) (And.intro (P1.out.drew) (And.intro (I1.out.drew) (I2.out.drew)))))
  generalize w0.drew = w0d at *
  refine Calm.take (i := 0) (v := ?_) (a' := ?_) (l' := #[true, false, false, false, false]) (d := some 5) rfl (by kernel_rfl) (by kernel_rfl) (by kernel_rfl) (by kernel_rfl) (fun _ _ _ h => h) HF.out rfl ?_ rfl rfl ?_ ?_
  rotate_left
  · intro w' hF; have f10 := hF.2.1.cell0; have f11 := hF.2.1.cell1; have f12 := hF.2.1.cell2; have f13 := hF.2.1.cell3; have f20 := hF.2.2.1.cell0; have f21 := hF.2.2.1.cell1; have f22 := hF.2.2.1.cell2; have f23 := hF.2.2.1.cell3; clear hF; go_simp; try rfl
  rotate_left
  · simp only [Act.put]; exact rfl
  refine Calm.take (i := 1) (v := ?_) (a' := ?_) (l' := #[true, true, false, false, false]) (d := some 6) rfl (by kernel_rfl) (by kernel_rfl) (by kernel_rfl) (by kernel_rfl) (fun _ _ _ h => h) HF.out rfl ?_ rfl rfl ?_ ?_
  rotate_left
  · intro w' hF; have f10 := hF.2.1.cell0; have f11 := hF.2.1.cell1; have f12 := hF.2.1.cell2; have f13 := hF.2.1.cell3; have f20 := hF.2.2.1.cell0; have f21 := hF.2.2.1.cell1; have f22 := hF.2.2.1.cell2; have f23 := hF.2.2.1.cell3; clear hF; go_simp; try rfl
  rotate_left
  · simp only [Act.put]; exact rfl
  refine Calm.one (i := 2) (l' := #[true, true, true, false, false]) (by kernel_rfl) rfl rfl rfl fun K hK => ?_
  go_simp
  refine (rtneg_any _ y _ HF.out.2.2.2.2).mono ?_
  rintro e u1 ⟨v, rfl, n, hb⟩
  replace P2 := hide (P2.out.step (hb))
  have HF' := hide (And.intro (HF.out.1.trans ((hb).mono HF.out.1.size)) (And.intro (HF.out.2.1.step (hb)) (And.intro (HF.out.2.2.1.step (hb)) (And.intro (HF.out.2.2.2.1.below (hb)) (HF.out.2.2.2.2.below (hb))))))
  have T1 := hide (n)
  refine hK _ _ (fun _ => HF'.out) ?_
  clear hK K HF hb n
  have HF := hide HF'.out
  clear HF'
  refine Calm.one (i := 3) (l' := #[true, true, true, true, false]) (by kernel_rfl) rfl rfl rfl fun K hK => ?_
  go_simp
  refine (rtadd_any _ _ x (-y) _ HF.out.2.2.2.1 T1.out HX.out HY.out.neg).mono ?_
  rintro e u2 ⟨v, rfl, n, hb⟩
  obtain ⟨s9, m9, n9, c9, t9, o9, p9, d9, rfl, n⟩ := n.cells
  replace P2 := hide (P2.out.step (hb))
  clear T1
  have HF' := hide (And.intro (HF.out.1.trans ((hb).mono HF.out.1.size)) (And.intro (HF.out.2.1.step (hb)) (And.intro (HF.out.2.2.1.step (hb)) (And.intro (HF.out.2.2.2.1.below (hb)) (HF.out.2.2.2.2.below (hb))))))
  have TR := hide (n)
  refine hK _ _ (fun _ => HF'.out) ?_
  clear hK K HF hb n
  have HF := hide HF'.out
  clear HF'
  refine Calm.one (i := 4) (l' := #[true, true, true, true, true]) (by kernel_rfl) rfl rfl rfl fun K hK => ?_
  have hc0 := P2.out.cell0
  have hc1 := P2.out.cell1
  have hc2 := P2.out.cell2
  have hc3 := P2.out.cell3
  have hf0 := P2.out.free 0
  have hf1 := P2.out.free 1
  have hf2 := P2.out.free 2
  have hf3 := P2.out.free 3
  go_simp
  have HF' := hide (And.intro (below_put4 HF.out.1 (show w.heap.size ≤ (w.heap.size + 1 + 1) by have hx := LTS.out; omega) (.bool s9) (.slice m9 n9 c9) (.bool t9) (.slice o9 p9 d9)) (And.intro (HF.out.2.1.other4 (C := (w.heap.size + 1 + 1)) (by have hx := LTS.out; omega) (.bool s9) (.slice m9 n9 c9) (.bool t9) (.slice o9 p9 d9)) (And.intro (HF.out.2.2.1.other4 (C := (w.heap.size + 1 + 1)) (by have hx := LTS.out; omega) (.bool s9) (.slice m9 n9 c9) (.bool t9) (.slice o9 p9 d9)) (And.intro (HF.out.2.2.2.1.keep (P2.out.keeps (by simp) (by simp) (by simp) (by simp) (.bool s9) (.slice m9 n9 c9) (.bool t9) (.slice o9 p9 d9))) (HF.out.2.2.2.2.keep (P2.out.keeps (by simp) (by simp) (by simp) (by simp) (.bool s9) (.slice m9 n9 c9) (.bool t9) (.slice o9 p9 d9)))))))
  replace TR := hide (TR.out.keep (P2.out.keeps (by simp) (by simp) (by simp) (by simp) (.bool s9) (.slice m9 n9 c9) (.bool t9) (.slice o9 p9 d9)))
  replace P2 := hide (P2.out.put (.bool s9) (.slice m9 n9 c9) (.bool t9) (.slice o9 p9 d9))
  refine hK _ _ (fun _ => HF'.out) ?_
  clear hK K HF hc0 hf0 hc1 hf1 hc2 hf2 hc3 hf3
  have HF := hide HF'.out
  clear HF'
  generalize ((((u2.setCell ⟨(w.heap.size + 1 + 1), 0, none⟩ (.bool s9)).setCell ⟨(w.heap.size + 1 + 1), 1, none⟩ (.slice m9 n9 c9)).setCell ⟨(w.heap.size + 1 + 1), 2, none⟩ (.bool t9)).setCell ⟨(w.heap.size + 1 + 1), 3, none⟩ (.slice o9 p9 d9)) = u8 at *
  refine Calm.done (by kernel_rfl) ?_
  replace HB := hide HF.out.1
  replace P0 := hide HF.out.2.1
  replace P1 := hide HF.out.2.2.1
  replace I1 := hide HF.out.2.2.2.1
  replace I2 := hide HF.out.2.2.2.2
  clear HF
  go_wp2
  refine ret_rat rfl (w.heap.size + 1 + 1) _ _ _ _ rfl P2.out rfl ?_
  exact ⟨_, rfl, by rw [Rat.sub_eq_add_neg]; exact TR.out, HB.out⟩
end Go.Proofs.Ytgkibmigbjjnnaa
