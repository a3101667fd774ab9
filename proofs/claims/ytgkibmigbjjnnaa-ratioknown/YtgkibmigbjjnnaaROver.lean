/- ratio.Rat's Over. -/
import Derived.Test.YtgkibmigbjjnnaaRMul
import Derived.Deep.Cut
namespace Go.Proofs.Ytgkibmigbjjnnaa
open Go.RowKit

set_option maxRecDepth 100000 in
set_option maxHeartbeats 4000000 in
theorem rtover_zero (v1 v2 : Value) (x y : Rat) (w : World) (h1 : RatAt w v1 x) (h2 : RatAt w v2 y) (hz : y = 0) :
    Calls Try.prog 11 #[v1, v2] w fun e w' => ∃ v', e = .returned (.tuple #[v', .int .i64 2]) ∧ RatAt w' v' 0 ∧ Below w.heap.size w w' := by
  have HZ : Hid (y.num = 0) := hide (by rw [hz]; rfl)
  clear hz
  obtain ⟨s1, m1, n1, c1, t1, o1, p1, d1, rfl, i1⟩ := h1.cells
  have I1 := hide i1
  clear h1 i1
  obtain ⟨s2, m2, n2, c2, t2, o2, p2, d2, rfl, i2⟩ := h2.cells
  have I2 := hide i2
  clear h2 i2
  have P0 := Box4.new w (.bool s1) (.slice m1 n1 c1) (.bool t1) (.slice o1 p1 d1)
  replace P0 := P0.step (below_alloc _ (.cells #[.bool s2, .slice m2 n2 c2, .bool t2, .slice o2 p2 d2] 27))
  replace P0 := P0.step (below_alloc _ (.cells #[.bool false, .slice none 0 0, .bool false, .slice none 0 0] 27))
  replace P0 := hide P0
  have P1 := Box4.new (w.alloc (.cells #[.bool s1, .slice m1 n1 c1, .bool t1, .slice o1 p1 d1] 27)) (.bool s2) (.slice m2 n2 c2) (.bool t2) (.slice o2 p2 d2)
  simp only [World.size_alloc] at P1
  replace P1 := P1.step (below_alloc _ (.cells #[.bool false, .slice none 0 0, .bool false, .slice none 0 0] 27))
  replace P1 := hide P1
  have P2 := Box4.new ((w.alloc (.cells #[.bool s1, .slice m1 n1 c1, .bool t1, .slice o1 p1 d1] 27)).alloc (.cells #[.bool s2, .slice m2 n2 c2, .bool t2, .slice o2 p2 d2] 27)) (.bool false) (.slice none 0 0) (.bool false) (.slice none 0 0)
  simp only [World.size_alloc] at P2
  replace P2 := hide P2
  have HB := below_alloc w (.cells #[.bool s1, .slice m1 n1 c1, .bool t1, .slice o1 p1 d1] 27)
  replace HB := HB.trans ((below_alloc _ (.cells #[.bool s2, .slice m2 n2 c2, .bool t2, .slice o2 p2 d2] 27)).mono (by simp only [World.size_alloc]; omega))
  replace HB := HB.trans ((below_alloc _ (.cells #[.bool false, .slice none 0 0, .bool false, .slice none 0 0] 27)).mono (by simp only [World.size_alloc]; omega))
  replace I1 := hide (I1.out.below HB)
  replace I2 := hide (I2.out.below HB)
  replace HB := hide HB
  go_enter Try.func11, Try.ntmps11
  go_wp2_with fail
  generalize (((w.alloc (.cells #[.bool s1, .slice m1 n1 c1, .bool t1, .slice o1 p1 d1] 27)).alloc (.cells #[.bool s2, .slice m2 n2 c2, .bool t2, .slice o2 p2 d2] 27)).alloc (.cells #[.bool false, .slice none 0 0, .bool false, .slice none 0 0] 27)) = w0 at *
  go_cut [6, 7] from 8 (fun pt0 pe0 wx => ∃ gt s3 m3 n3 c3 t3 o3 p3 d3, pt0 = .pointer (some ⟨gt, 0, none⟩) ∧ w0.heap.size ≤ gt ∧ Box4 wx gt (.bool s3) (.slice m3 n3 c3) (.bool t3) (.slice o3 p3 d3) ∧ RatAt wx (.agg #[.bool s3, .slice m3 n3 c3, .bool t3, .slice o3 p3 d3]) 0 ∧ pe0 = .int .i64 2 ∧ Below w0.heap.size w0 wx)
  case first =>
    refine wp_facts (fun L T wq => Below w0.heap.size w0 wq ∧ T 3 = .pointer (some ⟨(w.heap.size + 1), 0, none⟩) ∧ (L 0 = true → T 9 = .agg #[.bool s2, .slice m2 n2 c2, .bool t2, .slice o2 p2 d2]) ∧ (L 2 = true → T 11 = .pointer (some ⟨(w.heap.size + 1), 0, none⟩)) ∧ (L 3 = true → T 12 = .agg #[.bool s2, .slice m2 n2 c2]) ∧ (L 1 = true → IntAt wq (T 10) (y.den : Int)) ∧ (L 4 = true → ∃ v0 v1 : Value, T 13 = .tuple #[v0, v1] ∧ RatAt wq (v0) 0 ∧ v1 = .int .i64 2) ∧ (L 5 = true → ∃ v0 v1 : Value, T 8 = .tuple #[v0, v1] ∧ RatAt wq (v0) 0 ∧ v1 = .int .i64 2) ∧ (L 6 = true → RatAt wq (T 14) 0) ∧ (L 7 = true → T 15 = .int .i64 2) ∧ (L 10 = true → T 7 = .int .i64 2) ∧ (L 8 = true → PS w0.heap.size wq (T 6)) ∧ (L 8 = true → L 9 = false → PB w0.heap.size wq 27 (T 6) [.bool false, .slice none 0 0, .bool false, .slice none 0 0]) ∧ (L 9 = true → PV w0.heap.size wq 27 (T 6) (T 14))) 23 [6, 7, 8, 9, 10, 11, 12, 13, 14, 15] [0, 1, 2, 3, 4, 5, 6, 7, 8, 9, 10] (by kernel_rfl) (by kernel_rfl) (by kernel_rfl) (by kernel_rfl) ?_ ?_ ?_
    · exact ⟨(Below.refl w0.heap.size w0).drew, rfl, no_yet, no_yet, no_yet, no_yet, no_yet, no_yet, no_yet, no_yet, no_yet, no_yet, no_yet, no_yet⟩
    · intro i hi
      match i, hi with
      | 0, _ =>
        refine StepAt.of (need := []) (later := []) (k := 6) (d := some 9) rfl rfl (by kernel_rfl) (by kernel_rfl) ?_
        intro L T wq ev a he hL hN hM hJ next hnext
        have e3 := (he.tmp 3).trans hJ.2.1
        have hcl0 := ((P1.out).step hJ.1).cell0
        have hcl1 := ((P1.out).step hJ.1).cell1
        have hcl2 := ((P1.out).step hJ.1).cell2
        have hcl3 := ((P1.out).step hJ.1).cell3
        go_simp
        exact hnext _ _ ⟨hJ.1, hJ.2.1, fun _ => rfl, hJ.2.2.2.1, hJ.2.2.2.2.1, hJ.2.2.2.2.2.1, hJ.2.2.2.2.2.2.1, hJ.2.2.2.2.2.2.2.1, hJ.2.2.2.2.2.2.2.2.1, hJ.2.2.2.2.2.2.2.2.2.1, hJ.2.2.2.2.2.2.2.2.2.2.1, hJ.2.2.2.2.2.2.2.2.2.2.2.1, hJ.2.2.2.2.2.2.2.2.2.2.2.2.1, hJ.2.2.2.2.2.2.2.2.2.2.2.2.2⟩
      | 1, _ =>
        refine StepAt.of (need := [0]) (later := []) (k := 6) (d := some 10) rfl rfl (by kernel_rfl) (by kernel_rfl) ?_
        intro L T wq ev a he hL hN hM hJ next hnext
        have e9 := (he.tmp 9).trans (hJ.2.2.1 (hN.1))
        have ef := he.func
        go_simp
        refine (den_any _ y _ (I2.out.below hJ.1)).mono ?_
        rintro e wq' ⟨v, rfl, i, hb⟩
        exact hnext _ _ ⟨hJ.1.trans ((hb).mono hJ.1.size), hJ.2.1, hJ.2.2.1, hJ.2.2.2.1, hJ.2.2.2.2.1, fun _ => i, fun h => let ⟨v0, v1, e, y0, y1⟩ := hJ.2.2.2.2.2.2.1 h; ⟨v0, v1, e, y0.below (hb), y1⟩, fun h => let ⟨v0, v1, e, y0, y1⟩ := hJ.2.2.2.2.2.2.2.1 h; ⟨v0, v1, e, y0.below (hb), y1⟩, fun h => (hJ.2.2.2.2.2.2.2.2.1 h).below (hb), hJ.2.2.2.2.2.2.2.2.2.1, hJ.2.2.2.2.2.2.2.2.2.2.1, fun h => (hJ.2.2.2.2.2.2.2.2.2.2.2.1 h).step (hb), fun h h' => (hJ.2.2.2.2.2.2.2.2.2.2.2.2.1 h h').step (hb), fun h => (hJ.2.2.2.2.2.2.2.2.2.2.2.2.2 h).step (hb)⟩
      | 2, _ =>
        refine StepAt.of (need := []) (later := []) (k := 6) (d := some 11) rfl rfl (by kernel_rfl) (by kernel_rfl) ?_
        intro L T wq ev a he hL hN hM hJ next hnext
        have e3 := (he.tmp 3).trans hJ.2.1
        go_simp
        exact hnext _ _ ⟨hJ.1, hJ.2.1, hJ.2.2.1, fun _ => rfl, hJ.2.2.2.2.1, hJ.2.2.2.2.2.1, hJ.2.2.2.2.2.2.1, hJ.2.2.2.2.2.2.2.1, hJ.2.2.2.2.2.2.2.2.1, hJ.2.2.2.2.2.2.2.2.2.1, hJ.2.2.2.2.2.2.2.2.2.2.1, hJ.2.2.2.2.2.2.2.2.2.2.2.1, hJ.2.2.2.2.2.2.2.2.2.2.2.2.1, hJ.2.2.2.2.2.2.2.2.2.2.2.2.2⟩
      | 3, _ =>
        refine StepAt.of (need := [2]) (later := []) (k := 6) (d := some 12) rfl rfl (by kernel_rfl) (by kernel_rfl) ?_
        intro L T wq ev a he hL hN hM hJ next hnext
        have e11 := (he.tmp 11).trans (hJ.2.2.2.1 (hN.1))
        have hcl0 := ((P1.out).step hJ.1).cell0
        have hcl1 := ((P1.out).step hJ.1).cell1
        go_simp
        exact hnext _ _ ⟨hJ.1, hJ.2.1, hJ.2.2.1, hJ.2.2.2.1, fun _ => rfl, hJ.2.2.2.2.2.1, hJ.2.2.2.2.2.2.1, hJ.2.2.2.2.2.2.2.1, hJ.2.2.2.2.2.2.2.2.1, hJ.2.2.2.2.2.2.2.2.2.1, hJ.2.2.2.2.2.2.2.2.2.2.1, hJ.2.2.2.2.2.2.2.2.2.2.2.1, hJ.2.2.2.2.2.2.2.2.2.2.2.2.1, hJ.2.2.2.2.2.2.2.2.2.2.2.2.2⟩
      | 4, _ =>
        refine StepAt.of (need := [1, 3]) (later := []) (k := 6) (d := some 13) rfl rfl (by kernel_rfl) (by kernel_rfl) ?_
        intro L T wq ev a he hL hN hM hJ next hnext
        have e10 := he.tmp 10
        have e12 := (he.tmp 12).trans (hJ.2.2.2.2.1 (hN.2.1))
        have ef := he.func
        go_simp
        refine (rtmake_zero _ _ (y.den : Int) y.num _ (hJ.2.2.2.2.2.1 (hN.1)) (I2.out.below hJ.1).num HZ.out).mono ?_
        rintro e wq' ⟨v, rfl, i1, hb⟩
        exact hnext _ _ ⟨hJ.1.trans ((hb).mono hJ.1.size), hJ.2.1, hJ.2.2.1, hJ.2.2.2.1, hJ.2.2.2.2.1, fun h => (hJ.2.2.2.2.2.1 h).below (hb), fun _ => ⟨_, _, rfl, i1, rfl⟩, fun h => let ⟨v0, v1, e, y0, y1⟩ := hJ.2.2.2.2.2.2.2.1 h; ⟨v0, v1, e, y0.below (hb), y1⟩, fun h => (hJ.2.2.2.2.2.2.2.2.1 h).below (hb), hJ.2.2.2.2.2.2.2.2.2.1, hJ.2.2.2.2.2.2.2.2.2.2.1, fun h => (hJ.2.2.2.2.2.2.2.2.2.2.2.1 h).step (hb), fun h h' => (hJ.2.2.2.2.2.2.2.2.2.2.2.2.1 h h').step (hb), fun h => (hJ.2.2.2.2.2.2.2.2.2.2.2.2.2 h).step (hb)⟩
      | 5, _ =>
        refine StepAt.of (need := [4]) (later := []) (k := 6) (d := some 8) rfl rfl (by kernel_rfl) (by kernel_rfl) ?_
        intro L T wq ev a he hL hN hM hJ next hnext
        have e13 := he.tmp 13
        go_simp
        exact hnext _ _ ⟨hJ.1, hJ.2.1, hJ.2.2.1, hJ.2.2.2.1, hJ.2.2.2.2.1, hJ.2.2.2.2.2.1, hJ.2.2.2.2.2.2.1, fun _ => hJ.2.2.2.2.2.2.1 (hN.1), hJ.2.2.2.2.2.2.2.2.1, hJ.2.2.2.2.2.2.2.2.2.1, hJ.2.2.2.2.2.2.2.2.2.2.1, hJ.2.2.2.2.2.2.2.2.2.2.2.1, hJ.2.2.2.2.2.2.2.2.2.2.2.2.1, hJ.2.2.2.2.2.2.2.2.2.2.2.2.2⟩
      | 6, _ =>
        refine StepAt.of (need := [5]) (later := [9]) (k := 6) (d := some 14) rfl rfl (by kernel_rfl) (by kernel_rfl) ?_
        intro L T wq ev a he hL hN hM hJ next hnext
        obtain ⟨v0, v1, hv, y0, y1⟩ := hJ.2.2.2.2.2.2.2.1 (hN.1)
        have e8 := (he.tmp 8).trans hv
        go_simp
        exact hnext _ _ ⟨hJ.1, hJ.2.1, hJ.2.2.1, hJ.2.2.2.1, hJ.2.2.2.2.1, hJ.2.2.2.2.2.1, hJ.2.2.2.2.2.2.1, hJ.2.2.2.2.2.2.2.1, fun _ => y0, hJ.2.2.2.2.2.2.2.2.2.1, hJ.2.2.2.2.2.2.2.2.2.2.1, hJ.2.2.2.2.2.2.2.2.2.2.2.1, hJ.2.2.2.2.2.2.2.2.2.2.2.2.1, fun h => clash (hM.1) h⟩
      | 7, _ =>
        refine StepAt.of (need := [5]) (later := []) (k := 6) (d := some 15) rfl rfl (by kernel_rfl) (by kernel_rfl) ?_
        intro L T wq ev a he hL hN hM hJ next hnext
        obtain ⟨v0, v1, hv, y0, y1⟩ := hJ.2.2.2.2.2.2.2.1 (hN.1)
        have e8 := (he.tmp 8).trans hv
        go_simp
        exact hnext _ _ ⟨hJ.1, hJ.2.1, hJ.2.2.1, hJ.2.2.2.1, hJ.2.2.2.2.1, hJ.2.2.2.2.2.1, hJ.2.2.2.2.2.2.1, hJ.2.2.2.2.2.2.2.1, hJ.2.2.2.2.2.2.2.2.1, fun _ => (by first | exact y1 | exact rfl), hJ.2.2.2.2.2.2.2.2.2.2.1, hJ.2.2.2.2.2.2.2.2.2.2.2.1, hJ.2.2.2.2.2.2.2.2.2.2.2.2.1, hJ.2.2.2.2.2.2.2.2.2.2.2.2.2⟩
      | 8, _ =>
        refine StepAt.of (need := []) (later := [9]) (k := 6) (d := some 6) rfl rfl (by kernel_rfl) (by kernel_rfl) ?_
        intro L T wq ev a he hL hN hM hJ next hnext
        go_simp
        have hb := below_alloc wq (.cells #[.bool false, .slice none 0 0, .bool false, .slice none 0 0] 27)
        exact hnext _ _ ⟨hJ.1.trans ((hb).mono hJ.1.size), hJ.2.1, hJ.2.2.1, hJ.2.2.2.1, hJ.2.2.2.2.1, fun h => (hJ.2.2.2.2.2.1 h).below (hb), fun h => let ⟨v0, v1, e, y0, y1⟩ := hJ.2.2.2.2.2.2.1 h; ⟨v0, v1, e, y0.below (hb), y1⟩, fun h => let ⟨v0, v1, e, y0, y1⟩ := hJ.2.2.2.2.2.2.2.1 h; ⟨v0, v1, e, y0.below (hb), y1⟩, fun h => (hJ.2.2.2.2.2.2.2.2.1 h).below (hb), hJ.2.2.2.2.2.2.2.2.2.1, hJ.2.2.2.2.2.2.2.2.2.2.1, fun _ => PS.new hJ.1.size _, fun _ _ => PB.new hJ.1.size _ [.bool false, .slice none 0 0, .bool false, .slice none 0 0], fun h => clash (hM.1) h⟩
      | 9, _ =>
        refine StepAt.of (need := [8, 6]) (later := []) (k := 6) (d := none) rfl rfl (by kernel_rfl) (by kernel_rfl) ?_
        intro L T wq ev a he hL hN hM hJ next hnext
        obtain ⟨g, hg, hge, hbx⟩ := hJ.2.2.2.2.2.2.2.2.2.2.2.2.1 (hN.1) hL
        obtain ⟨sv, mv, nv, cv, sv', mv', nv', cv', hv, iv⟩ := (hJ.2.2.2.2.2.2.2.2.1 (hN.2.1)).cells
        have e6 := (he.tmp 6).trans hg
        have e14 := (he.tmp 14).trans hv
        have hc0 := hbx.cell 0 rfl
        have hf0 := hbx.free 0
        have hc1 := hbx.cell 1 rfl
        have hf1 := hbx.free 1
        have hc2 := hbx.cell 2 rfl
        have hf2 := hbx.free 2
        have hc3 := hbx.cell 3 rfl
        have hf3 := hbx.free 3
        have hk := keeps_all hbx (by intro c hc z e; subst e; simp at hc) [.bool sv, .slice mv nv cv, .bool sv', .slice mv' nv' cv'] rfl
        go_simp
        exact hnext undef _ ⟨below_all hge [.bool sv, .slice mv nv cv, .bool sv', .slice mv' nv' cv'] 0 _ hJ.1, hJ.2.1, hJ.2.2.1, hJ.2.2.2.1, hJ.2.2.2.2.1, fun h => (hJ.2.2.2.2.2.1 h).keep hk, fun h => let ⟨v0, v1, e, y0, y1⟩ := hJ.2.2.2.2.2.2.1 h; ⟨v0, v1, e, y0.keep hk, y1⟩, fun h => let ⟨v0, v1, e, y0, y1⟩ := hJ.2.2.2.2.2.2.2.1 h; ⟨v0, v1, e, y0.keep hk, y1⟩, fun h => (hJ.2.2.2.2.2.2.2.2.1 h).keep hk, hJ.2.2.2.2.2.2.2.2.2.1, hJ.2.2.2.2.2.2.2.2.2.2.1, fun h => (hJ.2.2.2.2.2.2.2.2.2.2.2.1 h).put [.bool sv, .slice mv nv cv, .bool sv', .slice mv' nv' cv'], fun _ h => no_more h, fun _ => PV.set' [.bool sv, .slice mv nv cv, .bool sv', .slice mv' nv' cv'] hg hv hbx hge rfl⟩
      | 10, _ =>
        refine StepAt.of (need := [7]) (later := []) (k := 6) (d := some 7) rfl rfl (by kernel_rfl) (by kernel_rfl) ?_
        intro L T wq ev a he hL hN hM hJ next hnext
        have e15 := he.tmp 15
        go_simp
        exact hnext _ _ ⟨hJ.1, hJ.2.1, hJ.2.2.1, hJ.2.2.2.1, hJ.2.2.2.2.1, hJ.2.2.2.2.2.1, hJ.2.2.2.2.2.2.1, hJ.2.2.2.2.2.2.2.1, hJ.2.2.2.2.2.2.2.2.1, hJ.2.2.2.2.2.2.2.2.2.1, fun _ => hJ.2.2.2.2.2.2.2.2.2.1 (hN.1), hJ.2.2.2.2.2.2.2.2.2.2.2.1, hJ.2.2.2.2.2.2.2.2.2.2.2.2.1, hJ.2.2.2.2.2.2.2.2.2.2.2.2.2⟩
      | k + 11, hi => exact absurd hi (Nat.not_lt.2 (Nat.le_add_left 11 k))
    · intro L a wq hA hJ hs hd hf
      obtain ⟨gt, cs0, hp0, hge0, hv0, hb0⟩ := hJ.2.2.2.2.2.2.2.2.2.2.2.2.2 (hA.2.2.2.2.2.2.2.2.2.1)
      have i0 := hJ.2.2.2.2.2.2.2.2.1 (hA.2.2.2.2.2.2.1)
      obtain ⟨s3, m3, n3, c3, t3, o3, p3, d3, hq0, i0⟩ := i0.cells
      rw [hq0, Value.agg.injEq] at hv0
      have hl0 : cs0 = _ := congrArg Array.toList hv0.symm
      subst hl0
      refine (by assumption : ∀ a' w', Met _ a' w' → _) _ _ (Met.intro ((by assumption : ∀ a' w', _ → _) _ _ ?_))
      exact ⟨a.tmps.getD 6 undef, a.tmps.getD 7 undef, a.tmps.getD 8 undef, a.tmps.getD 9 undef, a.tmps.getD 10 undef, a.tmps.getD 11 undef, a.tmps.getD 12 undef, a.tmps.getD 13 undef, a.tmps.getD 14 undef, a.tmps.getD 15 undef, a.tmps.getD 16 undef, a.tmps.getD 17 undef, a.tmps.getD 18 undef, a.tmps.getD 19 undef, a.tmps.getD 20 undef, a.tmps.getD 21 undef, a.tmps.getD 22 undef, ⟨gt, s3, m3, n3, c3, t3, o3, p3, d3, hp0, hge0, hb0, i0, hJ.2.2.2.2.2.2.2.2.2.2.1 (hA.2.2.2.2.2.2.2.2.2.2.1), hJ.1⟩, act_eq _ _ [6, 7, 8, 9, 10, 11, 12, 13, 14, 15, 16, 17, 18, 19, 20, 21, 22] hf (by kernel_rfl) (hs.trans (by kernel_rfl)) hd (by kernel_rfl)⟩
  case rest =>
  obtain ⟨gt, s3, m3, n3, c3, t3, o3, p3, d3, rfl, hge0, hbx0, hi0, rfl, hb⟩ := hcut
  have LTS1 := hide ((And.intro (Nat.lt_of_lt_of_le P0.out.lt hge0) (And.intro (Nat.lt_of_lt_of_le P1.out.lt hge0) ((Nat.lt_of_lt_of_le P2.out.lt hge0)))))
  replace I1 := hide (I1.out.below (hb))
  replace I2 := hide (I2.out.below (hb))
  replace P0 := hide (P0.out.step (hb))
  replace P1 := hide (P1.out.step (hb))
  replace P2 := hide (P2.out.step (hb))
  replace HB := hide (HB.out.trans ((hb).mono HB.out.size))
  have Vt := hide hbx0
  have TT := hide hi0
  clear hb hge0 hbx0 hi0
  generalize hwc : wc = wc1 at *
  clear hwc
  have hP20 := P2.out.cell0
  have hP21 := P2.out.cell1
  have hP22 := P2.out.cell2
  have hP23 := P2.out.cell3
  have fP20 := P2.out.free 0
  have fP21 := P2.out.free 1
  have fP22 := P2.out.free 2
  have fP23 := P2.out.free 3
  go_wp2
  refine ret_rate rfl (w.heap.size + 1 + 1) _ _ _ _ rfl (P2.out.put _ _ _ _) rfl ?_
  exact ⟨_, rfl, ⟨false, none, 0, 0, false, none, 0, 0, rfl, int_zero0 _, int_zero0 _⟩, below_put4 HB.out (by omega) _ _ _ _⟩

set_option maxRecDepth 100000 in
set_option maxHeartbeats 4000000 in
theorem rtover_any (v1 v2 : Value) (x y : Rat) (w : World) (h1 : RatAt w v1 x) (h2 : RatAt w v2 y) (hx : SzR 100000000 x) (hy : SzR 100000000 y) (hz : y ≠ 0) :
    Calls Try.prog 11 #[v1, v2] w fun e w' => ∃ v', e = .returned (.tuple #[v', .int .i64 0]) ∧ RatAt w' v' (x / y) ∧ Below w.heap.size w w' := by
  have HX := hide hx
  have HY := hide hy
  have HZ := hide (fun e : y.num = 0 => hz (Rat.num_eq_zero.1 e))
  have HI := hide (hy.inv hz)
  clear hx hy hz
  obtain ⟨s1, m1, n1, c1, t1, o1, p1, d1, rfl, i1⟩ := h1.cells
  have I1 := hide i1
  clear h1 i1
  obtain ⟨s2, m2, n2, c2, t2, o2, p2, d2, rfl, i2⟩ := h2.cells
  have I2 := hide i2
  clear h2 i2
  have P0 := Box4.new w (.bool s1) (.slice m1 n1 c1) (.bool t1) (.slice o1 p1 d1)
  replace P0 := P0.step (below_alloc _ (.cells #[.bool s2, .slice m2 n2 c2, .bool t2, .slice o2 p2 d2] 27))
  replace P0 := P0.step (below_alloc _ (.cells #[.bool false, .slice none 0 0, .bool false, .slice none 0 0] 27))
  replace P0 := hide P0
  have P1 := Box4.new (w.alloc (.cells #[.bool s1, .slice m1 n1 c1, .bool t1, .slice o1 p1 d1] 27)) (.bool s2) (.slice m2 n2 c2) (.bool t2) (.slice o2 p2 d2)
  simp only [World.size_alloc] at P1
  replace P1 := P1.step (below_alloc _ (.cells #[.bool false, .slice none 0 0, .bool false, .slice none 0 0] 27))
  replace P1 := hide P1
  have P2 := Box4.new ((w.alloc (.cells #[.bool s1, .slice m1 n1 c1, .bool t1, .slice o1 p1 d1] 27)).alloc (.cells #[.bool s2, .slice m2 n2 c2, .bool t2, .slice o2 p2 d2] 27)) (.bool false) (.slice none 0 0) (.bool false) (.slice none 0 0)
  simp only [World.size_alloc] at P2
  replace P2 := hide P2
  have HB := below_alloc w (.cells #[.bool s1, .slice m1 n1 c1, .bool t1, .slice o1 p1 d1] 27)
  replace HB := HB.trans ((below_alloc _ (.cells #[.bool s2, .slice m2 n2 c2, .bool t2, .slice o2 p2 d2] 27)).mono (by simp only [World.size_alloc]; omega))
  replace HB := HB.trans ((below_alloc _ (.cells #[.bool false, .slice none 0 0, .bool false, .slice none 0 0] 27)).mono (by simp only [World.size_alloc]; omega))
  replace I1 := hide (I1.out.below HB)
  replace I2 := hide (I2.out.below HB)
  replace HB := hide HB
  go_enter Try.func11, Try.ntmps11
  go_wp2_with fail
  generalize (((w.alloc (.cells #[.bool s1, .slice m1 n1 c1, .bool t1, .slice o1 p1 d1] 27)).alloc (.cells #[.bool s2, .slice m2 n2 c2, .bool t2, .slice o2 p2 d2] 27)).alloc (.cells #[.bool false, .slice none 0 0, .bool false, .slice none 0 0] 27)) = w0 at *
  go_cut [6, 7] from 8 (fun pt0 pe0 wx => ∃ gt s3 m3 n3 c3 t3 o3 p3 d3, pt0 = .pointer (some ⟨gt, 0, none⟩) ∧ w0.heap.size ≤ gt ∧ Box4 wx gt (.bool s3) (.slice m3 n3 c3) (.bool t3) (.slice o3 p3 d3) ∧ RatAt wx (.agg #[.bool s3, .slice m3 n3 c3, .bool t3, .slice o3 p3 d3]) (Rat.divInt (y.den : Int) y.num) ∧ pe0 = .int .i64 0 ∧ Below w0.heap.size w0 wx)
  case first =>
    refine wp_facts (fun L T wq => Below w0.heap.size w0 wq ∧ T 3 = .pointer (some ⟨(w.heap.size + 1), 0, none⟩) ∧ (L 0 = true → T 9 = .agg #[.bool s2, .slice m2 n2 c2, .bool t2, .slice o2 p2 d2]) ∧ (L 2 = true → T 11 = .pointer (some ⟨(w.heap.size + 1), 0, none⟩)) ∧ (L 3 = true → T 12 = .agg #[.bool s2, .slice m2 n2 c2]) ∧ (L 1 = true → IntAt wq (T 10) (y.den : Int)) ∧ (L 4 = true → ∃ v0 v1 : Value, T 13 = .tuple #[v0, v1] ∧ RatAt wq (v0) (Rat.divInt (y.den : Int) y.num) ∧ v1 = .int .i64 0) ∧ (L 5 = true → ∃ v0 v1 : Value, T 8 = .tuple #[v0, v1] ∧ RatAt wq (v0) (Rat.divInt (y.den : Int) y.num) ∧ v1 = .int .i64 0) ∧ (L 6 = true → RatAt wq (T 14) (Rat.divInt (y.den : Int) y.num)) ∧ (L 7 = true → T 15 = .int .i64 0) ∧ (L 10 = true → T 7 = .int .i64 0) ∧ (L 8 = true → PS w0.heap.size wq (T 6)) ∧ (L 8 = true → L 9 = false → PB w0.heap.size wq 27 (T 6) [.bool false, .slice none 0 0, .bool false, .slice none 0 0]) ∧ (L 9 = true → PV w0.heap.size wq 27 (T 6) (T 14))) 23 [6, 7, 8, 9, 10, 11, 12, 13, 14, 15] [0, 1, 2, 3, 4, 5, 6, 7, 8, 9, 10] (by kernel_rfl) (by kernel_rfl) (by kernel_rfl) (by kernel_rfl) ?_ ?_ ?_
    · exact ⟨(Below.refl w0.heap.size w0).drew, rfl, no_yet, no_yet, no_yet, no_yet, no_yet, no_yet, no_yet, no_yet, no_yet, no_yet, no_yet, no_yet⟩
    · intro i hi
      match i, hi with
      | 0, _ =>
        refine StepAt.of (need := []) (later := []) (k := 6) (d := some 9) rfl rfl (by kernel_rfl) (by kernel_rfl) ?_
        intro L T wq ev a he hL hN hM hJ next hnext
        have e3 := (he.tmp 3).trans hJ.2.1
        have hcl0 := ((P1.out).step hJ.1).cell0
        have hcl1 := ((P1.out).step hJ.1).cell1
        have hcl2 := ((P1.out).step hJ.1).cell2
        have hcl3 := ((P1.out).step hJ.1).cell3
        go_simp
        exact hnext _ _ ⟨hJ.1, hJ.2.1, fun _ => rfl, hJ.2.2.2.1, hJ.2.2.2.2.1, hJ.2.2.2.2.2.1, hJ.2.2.2.2.2.2.1, hJ.2.2.2.2.2.2.2.1, hJ.2.2.2.2.2.2.2.2.1, hJ.2.2.2.2.2.2.2.2.2.1, hJ.2.2.2.2.2.2.2.2.2.2.1, hJ.2.2.2.2.2.2.2.2.2.2.2.1, hJ.2.2.2.2.2.2.2.2.2.2.2.2.1, hJ.2.2.2.2.2.2.2.2.2.2.2.2.2⟩
      | 1, _ =>
        refine StepAt.of (need := [0]) (later := []) (k := 6) (d := some 10) rfl rfl (by kernel_rfl) (by kernel_rfl) ?_
        intro L T wq ev a he hL hN hM hJ next hnext
        have e9 := (he.tmp 9).trans (hJ.2.2.1 (hN.1))
        have ef := he.func
        go_simp
        refine (den_any _ y _ (I2.out.below hJ.1)).mono ?_
        rintro e wq' ⟨v, rfl, i, hb⟩
        exact hnext _ _ ⟨hJ.1.trans ((hb).mono hJ.1.size), hJ.2.1, hJ.2.2.1, hJ.2.2.2.1, hJ.2.2.2.2.1, fun _ => i, fun h => let ⟨v0, v1, e, y0, y1⟩ := hJ.2.2.2.2.2.2.1 h; ⟨v0, v1, e, y0.below (hb), y1⟩, fun h => let ⟨v0, v1, e, y0, y1⟩ := hJ.2.2.2.2.2.2.2.1 h; ⟨v0, v1, e, y0.below (hb), y1⟩, fun h => (hJ.2.2.2.2.2.2.2.2.1 h).below (hb), hJ.2.2.2.2.2.2.2.2.2.1, hJ.2.2.2.2.2.2.2.2.2.2.1, fun h => (hJ.2.2.2.2.2.2.2.2.2.2.2.1 h).step (hb), fun h h' => (hJ.2.2.2.2.2.2.2.2.2.2.2.2.1 h h').step (hb), fun h => (hJ.2.2.2.2.2.2.2.2.2.2.2.2.2 h).step (hb)⟩
      | 2, _ =>
        refine StepAt.of (need := []) (later := []) (k := 6) (d := some 11) rfl rfl (by kernel_rfl) (by kernel_rfl) ?_
        intro L T wq ev a he hL hN hM hJ next hnext
        have e3 := (he.tmp 3).trans hJ.2.1
        go_simp
        exact hnext _ _ ⟨hJ.1, hJ.2.1, hJ.2.2.1, fun _ => rfl, hJ.2.2.2.2.1, hJ.2.2.2.2.2.1, hJ.2.2.2.2.2.2.1, hJ.2.2.2.2.2.2.2.1, hJ.2.2.2.2.2.2.2.2.1, hJ.2.2.2.2.2.2.2.2.2.1, hJ.2.2.2.2.2.2.2.2.2.2.1, hJ.2.2.2.2.2.2.2.2.2.2.2.1, hJ.2.2.2.2.2.2.2.2.2.2.2.2.1, hJ.2.2.2.2.2.2.2.2.2.2.2.2.2⟩
      | 3, _ =>
        refine StepAt.of (need := [2]) (later := []) (k := 6) (d := some 12) rfl rfl (by kernel_rfl) (by kernel_rfl) ?_
        intro L T wq ev a he hL hN hM hJ next hnext
        have e11 := (he.tmp 11).trans (hJ.2.2.2.1 (hN.1))
        have hcl0 := ((P1.out).step hJ.1).cell0
        have hcl1 := ((P1.out).step hJ.1).cell1
        go_simp
        exact hnext _ _ ⟨hJ.1, hJ.2.1, hJ.2.2.1, hJ.2.2.2.1, fun _ => rfl, hJ.2.2.2.2.2.1, hJ.2.2.2.2.2.2.1, hJ.2.2.2.2.2.2.2.1, hJ.2.2.2.2.2.2.2.2.1, hJ.2.2.2.2.2.2.2.2.2.1, hJ.2.2.2.2.2.2.2.2.2.2.1, hJ.2.2.2.2.2.2.2.2.2.2.2.1, hJ.2.2.2.2.2.2.2.2.2.2.2.2.1, hJ.2.2.2.2.2.2.2.2.2.2.2.2.2⟩
      | 4, _ =>
        refine StepAt.of (need := [1, 3]) (later := []) (k := 6) (d := some 13) rfl rfl (by kernel_rfl) (by kernel_rfl) ?_
        intro L T wq ev a he hL hN hM hJ next hnext
        have e10 := he.tmp 10
        have e12 := (he.tmp 12).trans (hJ.2.2.2.2.1 (hN.2.1))
        have ef := he.func
        go_simp
        refine (rtmake_any _ _ (y.den : Int) y.num _ (hJ.2.2.2.2.2.1 (hN.1)) (I2.out.below hJ.1).num (SzI.len HY.out.den (by decide)) (SzI.len HY.out.num (by decide)) HZ.out).mono ?_
        rintro e wq' ⟨v, rfl, i1, hb⟩
        exact hnext _ _ ⟨hJ.1.trans ((hb).mono hJ.1.size), hJ.2.1, hJ.2.2.1, hJ.2.2.2.1, hJ.2.2.2.2.1, fun h => (hJ.2.2.2.2.2.1 h).below (hb), fun _ => ⟨_, _, rfl, i1, rfl⟩, fun h => let ⟨v0, v1, e, y0, y1⟩ := hJ.2.2.2.2.2.2.2.1 h; ⟨v0, v1, e, y0.below (hb), y1⟩, fun h => (hJ.2.2.2.2.2.2.2.2.1 h).below (hb), hJ.2.2.2.2.2.2.2.2.2.1, hJ.2.2.2.2.2.2.2.2.2.2.1, fun h => (hJ.2.2.2.2.2.2.2.2.2.2.2.1 h).step (hb), fun h h' => (hJ.2.2.2.2.2.2.2.2.2.2.2.2.1 h h').step (hb), fun h => (hJ.2.2.2.2.2.2.2.2.2.2.2.2.2 h).step (hb)⟩
      | 5, _ =>
        refine StepAt.of (need := [4]) (later := []) (k := 6) (d := some 8) rfl rfl (by kernel_rfl) (by kernel_rfl) ?_
        intro L T wq ev a he hL hN hM hJ next hnext
        have e13 := he.tmp 13
        go_simp
        exact hnext _ _ ⟨hJ.1, hJ.2.1, hJ.2.2.1, hJ.2.2.2.1, hJ.2.2.2.2.1, hJ.2.2.2.2.2.1, hJ.2.2.2.2.2.2.1, fun _ => hJ.2.2.2.2.2.2.1 (hN.1), hJ.2.2.2.2.2.2.2.2.1, hJ.2.2.2.2.2.2.2.2.2.1, hJ.2.2.2.2.2.2.2.2.2.2.1, hJ.2.2.2.2.2.2.2.2.2.2.2.1, hJ.2.2.2.2.2.2.2.2.2.2.2.2.1, hJ.2.2.2.2.2.2.2.2.2.2.2.2.2⟩
      | 6, _ =>
        refine StepAt.of (need := [5]) (later := [9]) (k := 6) (d := some 14) rfl rfl (by kernel_rfl) (by kernel_rfl) ?_
        intro L T wq ev a he hL hN hM hJ next hnext
        obtain ⟨v0, v1, hv, y0, y1⟩ := hJ.2.2.2.2.2.2.2.1 (hN.1)
        have e8 := (he.tmp 8).trans hv
        go_simp
        exact hnext _ _ ⟨hJ.1, hJ.2.1, hJ.2.2.1, hJ.2.2.2.1, hJ.2.2.2.2.1, hJ.2.2.2.2.2.1, hJ.2.2.2.2.2.2.1, hJ.2.2.2.2.2.2.2.1, fun _ => y0, hJ.2.2.2.2.2.2.2.2.2.1, hJ.2.2.2.2.2.2.2.2.2.2.1, hJ.2.2.2.2.2.2.2.2.2.2.2.1, hJ.2.2.2.2.2.2.2.2.2.2.2.2.1, fun h => clash (hM.1) h⟩
      | 7, _ =>
        refine StepAt.of (need := [5]) (later := []) (k := 6) (d := some 15) rfl rfl (by kernel_rfl) (by kernel_rfl) ?_
        intro L T wq ev a he hL hN hM hJ next hnext
        obtain ⟨v0, v1, hv, y0, y1⟩ := hJ.2.2.2.2.2.2.2.1 (hN.1)
        have e8 := (he.tmp 8).trans hv
        go_simp
        exact hnext _ _ ⟨hJ.1, hJ.2.1, hJ.2.2.1, hJ.2.2.2.1, hJ.2.2.2.2.1, hJ.2.2.2.2.2.1, hJ.2.2.2.2.2.2.1, hJ.2.2.2.2.2.2.2.1, hJ.2.2.2.2.2.2.2.2.1, fun _ => (by first | exact y1 | exact rfl), hJ.2.2.2.2.2.2.2.2.2.2.1, hJ.2.2.2.2.2.2.2.2.2.2.2.1, hJ.2.2.2.2.2.2.2.2.2.2.2.2.1, hJ.2.2.2.2.2.2.2.2.2.2.2.2.2⟩
      | 8, _ =>
        refine StepAt.of (need := []) (later := [9]) (k := 6) (d := some 6) rfl rfl (by kernel_rfl) (by kernel_rfl) ?_
        intro L T wq ev a he hL hN hM hJ next hnext
        go_simp
        have hb := below_alloc wq (.cells #[.bool false, .slice none 0 0, .bool false, .slice none 0 0] 27)
        exact hnext _ _ ⟨hJ.1.trans ((hb).mono hJ.1.size), hJ.2.1, hJ.2.2.1, hJ.2.2.2.1, hJ.2.2.2.2.1, fun h => (hJ.2.2.2.2.2.1 h).below (hb), fun h => let ⟨v0, v1, e, y0, y1⟩ := hJ.2.2.2.2.2.2.1 h; ⟨v0, v1, e, y0.below (hb), y1⟩, fun h => let ⟨v0, v1, e, y0, y1⟩ := hJ.2.2.2.2.2.2.2.1 h; ⟨v0, v1, e, y0.below (hb), y1⟩, fun h => (hJ.2.2.2.2.2.2.2.2.1 h).below (hb), hJ.2.2.2.2.2.2.2.2.2.1, hJ.2.2.2.2.2.2.2.2.2.2.1, fun _ => PS.new hJ.1.size _, fun _ _ => PB.new hJ.1.size _ [.bool false, .slice none 0 0, .bool false, .slice none 0 0], fun h => clash (hM.1) h⟩
      | 9, _ =>
        refine StepAt.of (need := [8, 6]) (later := []) (k := 6) (d := none) rfl rfl (by kernel_rfl) (by kernel_rfl) ?_
        intro L T wq ev a he hL hN hM hJ next hnext
        obtain ⟨g, hg, hge, hbx⟩ := hJ.2.2.2.2.2.2.2.2.2.2.2.2.1 (hN.1) hL
        obtain ⟨sv, mv, nv, cv, sv', mv', nv', cv', hv, iv⟩ := (hJ.2.2.2.2.2.2.2.2.1 (hN.2.1)).cells
        have e6 := (he.tmp 6).trans hg
        have e14 := (he.tmp 14).trans hv
        have hc0 := hbx.cell 0 rfl
        have hf0 := hbx.free 0
        have hc1 := hbx.cell 1 rfl
        have hf1 := hbx.free 1
        have hc2 := hbx.cell 2 rfl
        have hf2 := hbx.free 2
        have hc3 := hbx.cell 3 rfl
        have hf3 := hbx.free 3
        have hk := keeps_all hbx (by intro c hc z e; subst e; simp at hc) [.bool sv, .slice mv nv cv, .bool sv', .slice mv' nv' cv'] rfl
        go_simp
        exact hnext undef _ ⟨below_all hge [.bool sv, .slice mv nv cv, .bool sv', .slice mv' nv' cv'] 0 _ hJ.1, hJ.2.1, hJ.2.2.1, hJ.2.2.2.1, hJ.2.2.2.2.1, fun h => (hJ.2.2.2.2.2.1 h).keep hk, fun h => let ⟨v0, v1, e, y0, y1⟩ := hJ.2.2.2.2.2.2.1 h; ⟨v0, v1, e, y0.keep hk, y1⟩, fun h => let ⟨v0, v1, e, y0, y1⟩ := hJ.2.2.2.2.2.2.2.1 h; ⟨v0, v1, e, y0.keep hk, y1⟩, fun h => (hJ.2.2.2.2.2.2.2.2.1 h).keep hk, hJ.2.2.2.2.2.2.2.2.2.1, hJ.2.2.2.2.2.2.2.2.2.2.1, fun h => (hJ.2.2.2.2.2.2.2.2.2.2.2.1 h).put [.bool sv, .slice mv nv cv, .bool sv', .slice mv' nv' cv'], fun _ h => no_more h, fun _ => PV.set' [.bool sv, .slice mv nv cv, .bool sv', .slice mv' nv' cv'] hg hv hbx hge rfl⟩
      | 10, _ =>
        refine StepAt.of (need := [7]) (later := []) (k := 6) (d := some 7) rfl rfl (by kernel_rfl) (by kernel_rfl) ?_
        intro L T wq ev a he hL hN hM hJ next hnext
        have e15 := he.tmp 15
        go_simp
        exact hnext _ _ ⟨hJ.1, hJ.2.1, hJ.2.2.1, hJ.2.2.2.1, hJ.2.2.2.2.1, hJ.2.2.2.2.2.1, hJ.2.2.2.2.2.2.1, hJ.2.2.2.2.2.2.2.1, hJ.2.2.2.2.2.2.2.2.1, hJ.2.2.2.2.2.2.2.2.2.1, fun _ => hJ.2.2.2.2.2.2.2.2.2.1 (hN.1), hJ.2.2.2.2.2.2.2.2.2.2.2.1, hJ.2.2.2.2.2.2.2.2.2.2.2.2.1, hJ.2.2.2.2.2.2.2.2.2.2.2.2.2⟩
      | k + 11, hi => exact absurd hi (Nat.not_lt.2 (Nat.le_add_left 11 k))
    · intro L a wq hA hJ hs hd hf
      obtain ⟨gt, cs0, hp0, hge0, hv0, hb0⟩ := hJ.2.2.2.2.2.2.2.2.2.2.2.2.2 (hA.2.2.2.2.2.2.2.2.2.1)
      have i0 := hJ.2.2.2.2.2.2.2.2.1 (hA.2.2.2.2.2.2.1)
      obtain ⟨s3, m3, n3, c3, t3, o3, p3, d3, hq0, i0⟩ := i0.cells
      rw [hq0, Value.agg.injEq] at hv0
      have hl0 : cs0 = _ := congrArg Array.toList hv0.symm
      subst hl0
      refine (by assumption : ∀ a' w', Met _ a' w' → _) _ _ (Met.intro ((by assumption : ∀ a' w', _ → _) _ _ ?_))
      exact ⟨a.tmps.getD 6 undef, a.tmps.getD 7 undef, a.tmps.getD 8 undef, a.tmps.getD 9 undef, a.tmps.getD 10 undef, a.tmps.getD 11 undef, a.tmps.getD 12 undef, a.tmps.getD 13 undef, a.tmps.getD 14 undef, a.tmps.getD 15 undef, a.tmps.getD 16 undef, a.tmps.getD 17 undef, a.tmps.getD 18 undef, a.tmps.getD 19 undef, a.tmps.getD 20 undef, a.tmps.getD 21 undef, a.tmps.getD 22 undef, ⟨gt, s3, m3, n3, c3, t3, o3, p3, d3, hp0, hge0, hb0, i0, hJ.2.2.2.2.2.2.2.2.2.2.1 (hA.2.2.2.2.2.2.2.2.2.2.1), hJ.1⟩, act_eq _ _ [6, 7, 8, 9, 10, 11, 12, 13, 14, 15, 16, 17, 18, 19, 20, 21, 22] hf (by kernel_rfl) (hs.trans (by kernel_rfl)) hd (by kernel_rfl)⟩
  case rest =>
  obtain ⟨gt, s3, m3, n3, c3, t3, o3, p3, d3, rfl, hge0, hbx0, hi0, rfl, hb⟩ := hcut
  have LTS1 := hide ((And.intro (Nat.lt_of_lt_of_le P0.out.lt hge0) (And.intro (Nat.lt_of_lt_of_le P1.out.lt hge0) ((Nat.lt_of_lt_of_le P2.out.lt hge0)))))
  replace I1 := hide (I1.out.below (hb))
  replace I2 := hide (I2.out.below (hb))
  replace P0 := hide (P0.out.step (hb))
  replace P1 := hide (P1.out.step (hb))
  replace P2 := hide (P2.out.step (hb))
  replace HB := hide (HB.out.trans ((hb).mono HB.out.size))
  have Vt := hide hbx0
  have TT := hide hi0
  clear hb hge0 hbx0 hi0
  generalize hwc : wc = wc1 at *
  clear hwc
  have hP00 := P0.out.cell0
  have hP01 := P0.out.cell1
  have hP02 := P0.out.cell2
  have hP03 := P0.out.cell3
  have hVt0 := Vt.out.cell0
  have hVt1 := Vt.out.cell1
  have hVt2 := Vt.out.cell2
  have hVt3 := Vt.out.cell3
  go_wp2_with fail
  refine (rtmul_any _ _ x (Rat.divInt (y.den : Int) y.num) _ I1.out TT.out HX.out (by have := HI.out; rwa [Rat.inv_def] at this)).mono ?_
  rintro e u3 ⟨v, rfl, n, hb⟩
  obtain ⟨s9, m9, n9, c9, t9, o9, p9, d9, rfl, n⟩ := n.cells
  clear hP00 hP01 hP02 hP03
  clear hVt0 hVt1 hVt2 hVt3
  replace I1 := hide (I1.out.below (hb))
  replace I2 := hide (I2.out.below (hb))
  replace P0 := hide (P0.out.step (hb))
  replace P1 := hide (P1.out.step (hb))
  replace P2 := hide (P2.out.step (hb))
  replace HB := hide (HB.out.trans ((hb).mono HB.out.size))
  replace Vt := hide (Vt.out.step (hb))
  replace TT := hide (TT.out.below (hb))
  have TR := hide (n)
  clear hb n
  have hP20 := P2.out.cell0
  have hP21 := P2.out.cell1
  have hP22 := P2.out.cell2
  have hP23 := P2.out.cell3
  have fP20 := P2.out.free 0
  have fP21 := P2.out.free 1
  have fP22 := P2.out.free 2
  have fP23 := P2.out.free 3
  go_wp2
  refine ret_rate rfl (w.heap.size + 1 + 1) _ _ _ _ rfl (P2.out.put _ _ _ _) rfl ?_
  exact ⟨_, rfl, by rw [Rat.div_def, Rat.inv_def]; exact TR.out.keep (P2.out.keeps (by simp) (by simp) (by simp) (by simp) _ _ _ _), below_put4 HB.out (by omega) _ _ _ _⟩

end Go.Proofs.Ytgkibmigbjjnnaa
