/- integer.Int's Bezout. -/
import Derived.Test.YteogbhgogiaocaaDoorIEuc
import Derived.Deep.Cut
namespace Go.Proofs.YteogbhgogiaocaaDoor
open Go.RowKit

/-- what Bezout answers -/
def BezAt (x y g u v : Int) : Prop := g = (Int.gcd x y : Int) ∧ u * x + v * y = g ∧ (y = 0 → u = sgnI x ∧ v = 0) ∧ (y ≠ 0 → 0 ≤ u ∧ u < (y.natAbs : Int) / g)
theorem bez_fact {x y u : Int} (hy : y ≠ 0) (hd : y ∣ u * x - (Int.gcd x y : Int)) :
    (Int.gcd x y : Int) ≠ 0 ∧ y / (Int.gcd x y : Int) ≠ 0 ∧ BezAt x y (Int.gcd x y : Int) (u % (y / (Int.gcd x y : Int))) (((Int.gcd x y : Int) - u % (y / (Int.gcd x y : Int)) * x) / y) := by
  have hx : (Int.gcd x y : Int) ∣ x := Int.gcd_dvd_left ..
  have hyd : (Int.gcd x y : Int) ∣ y := Int.gcd_dvd_right ..
  have hp : (0 : Int) < (Int.gcd x y : Int) := by
    have : Int.gcd x y ≠ 0 := fun h => hy (Int.gcd_eq_zero_iff.1 h).2
    omega
  unfold BezAt
  generalize (Int.gcd x y : Int) = g at *
  obtain ⟨a, rfl⟩ := hx
  obtain ⟨b, rfl⟩ := hyd
  have hb : b ≠ 0 := fun h => hy (by rw [h, Int.mul_zero])
  have hg : g ≠ 0 := by omega
  rw [Int.mul_ediv_cancel_left b hg]
  obtain ⟨k, hk⟩ := hd
  have em := Int.emod_add_mul_ediv u b
  have e : g - u % b * (g * a) = g * b * (u / b * a - k) := by
    have h1 : u % b = u - b * (u / b) := by omega
    rw [h1]
    have h2 : (u - b * (u / b)) * (g * a) = (u * (g * a) - g) + g - g * b * (u / b * a) := by grind
    rw [h2, hk]
    grind
  refine ⟨hg, hb, rfl, ?_, fun h => absurd h hy, fun _ => ⟨Int.emod_nonneg u hb, ?_⟩⟩
  · rw [e, Int.mul_ediv_cancel_left _ hy, Int.mul_comm _ (g * b), ← e]; omega
  · have h1 := Int.emod_lt u hb
    have h2 : ((g * b).natAbs : Int) = g * (b.natAbs : Int) := by rw [Int.natAbs_mul, Int.natCast_mul, Int.natAbs_of_nonneg (Int.le_of_lt hp)]
    rw [h2, Int.mul_ediv_cancel_left _ hg]
    exact h1
theorem bez_zero (x : Int) : BezAt x 0 (x.natAbs : Int) (sgnI x) 0 := by
  refine ⟨by simp, ?_, fun _ => ⟨rfl, rfl⟩, fun h => absurd rfl h⟩
  unfold sgnI
  split <;> (try split) <;> omega
theorem sgnI_zero_iff {z : Int} (h : z ≠ 0) : (sgnI z == 0) = false := by rw [beq_eq_false_iff_ne]; unfold sgnI; split <;> (try split) <;> omega
/-- three numbers are handed back -/
theorem ret_iii {fn : Func} {R : Ending → World → Prop} {a : Act} {w : World} {p q r : Tmp} (h : fn.results = #[.cell p 25, .cell q 25, .cell r 25]) (g g' g'' : Nat) (x y x' y' x'' y'' : Value)
    (hp : a.tmps.getD p undef = .pointer (some ⟨g, 0, none⟩)) (hq : a.tmps.getD q undef = .pointer (some ⟨g', 0, none⟩)) (hr : a.tmps.getD r undef = .pointer (some ⟨g'', 0, none⟩)) (hg : Box w g x y) (hg' : Box w g' x' y') (hg'' : Box w g'' x'' y'') (hd : a.defers = []) (hR : R (.returned (.tuple #[.agg #[x, y], .agg #[x', y'], .agg #[x'', y'']])) w) : bodyPost Tryd.prog fn R .ret a w := by
  refine bodyPost_ret ?_ hd hR
  have hp' : a.tmps[p]?.getD undef = .pointer (some ⟨g, 0, none⟩) := by simpa using hp
  have hq' : a.tmps[q]?.getD undef = .pointer (some ⟨g', 0, none⟩) := by simpa using hq
  have hr' : a.tmps[r]?.getD undef = .pointer (some ⟨g'', 0, none⟩) := by simpa using hr
  simp [results, h, hp', hq', hr', asAddr, run_loadVar_row w g 25 25 #[x, y] (0, 0) _ hg Tryd.underlying25 rfl Tryd.infoInt, run_loadVar_row w g' 25 25 #[x', y'] (0, 0) _ hg' Tryd.underlying25 rfl Tryd.infoInt, run_loadVar_row w g'' 25 25 #[x'', y''] (0, 0) _ hg'' Tryd.underlying25 rfl Tryd.infoInt]
theorem SzI.quo {k : Nat} {x : Int} (h : SzI k x) (y : Int) : SzI k (x / y) := Nat.lt_of_le_of_lt (Int.natAbs_ediv_le_natAbs x y) h
theorem SzI.rem {k : Nat} {y : Int} (h : SzI k y) (x : Int) (hy : y ≠ 0) : SzI k (x % y) := by
  have h1 := Int.emod_nonneg x hy
  have h2 := Int.emod_lt x hy
  exact Nat.lt_of_le_of_lt (show (x % y).natAbs ≤ y.natAbs by omega) h
theorem gcd_abs_le {x y : Int} (hy : y ≠ 0) : (Int.gcd x y : Int).natAbs ≤ y.natAbs := by
  rw [Int.natAbs_natCast]
  exact Nat.le_of_dvd (by omega) (Int.natAbs_dvd_natAbs.2 (Int.gcd_dvd_right x y) |> fun h => by simpa using h)

set_option maxRecDepth 100000 in
set_option maxHeartbeats 8000000 in
theorem ibezout_any (v1 v2 : Value) (x y : Int) (k : Nat) (w : World) (h1 : IntAt w v1 x) (h2 : IntAt w v2 y) (s1 : SzI k x) (s2 : SzI k y) (hk : k ≤ 100000000) :
    Calls Tryd.prog 7 #[v1, v2] w fun e w' => ∃ (a b c : Value) (g u v : Int), e = .returned (.tuple #[a, b, c]) ∧ IntAt w' a g ∧ IntAt w' b u ∧ IntAt w' c v ∧ BezAt x y g u v ∧ Below w.heap.size w w' := by
  have SX := hide s1
  have SY := hide s2
  have HK := hide hk
  have LTS := hide True.intro
  clear s1 s2 hk
  obtain ⟨sx, mx, nx, cx, rfl, ix⟩ := h1.cells
  have Ix := hide ix
  clear h1 ix
  obtain ⟨sy, my, ny, cy, rfl, iy⟩ := h2.cells
  have Iy := hide iy
  clear h2 iy
  have P0 := Box.new w (.bool sx) (.slice mx nx cx)
  replace P0 := P0.step (below_alloc _ (.cells #[.bool sy, .slice my ny cy] 25))
  replace P0 := P0.step (below_alloc _ (.cells #[.bool false, .slice none 0 0] 25))
  replace P0 := P0.step (below_alloc _ (.cells #[.bool false, .slice none 0 0] 25))
  replace P0 := P0.step (below_alloc _ (.cells #[.bool false, .slice none 0 0] 25))
  replace P0 := hide P0
  have P1 := Box.new (w.alloc (.cells #[.bool sx, .slice mx nx cx] 25)) (.bool sy) (.slice my ny cy)
  simp only [World.size_alloc] at P1
  replace P1 := P1.step (below_alloc _ (.cells #[.bool false, .slice none 0 0] 25))
  replace P1 := P1.step (below_alloc _ (.cells #[.bool false, .slice none 0 0] 25))
  replace P1 := P1.step (below_alloc _ (.cells #[.bool false, .slice none 0 0] 25))
  replace P1 := hide P1
  have P2 := Box.new ((w.alloc (.cells #[.bool sx, .slice mx nx cx] 25)).alloc (.cells #[.bool sy, .slice my ny cy] 25)) (.bool false) (.slice none 0 0)
  simp only [World.size_alloc] at P2
  replace P2 := P2.step (below_alloc _ (.cells #[.bool false, .slice none 0 0] 25))
  replace P2 := P2.step (below_alloc _ (.cells #[.bool false, .slice none 0 0] 25))
  replace P2 := hide P2
  have P3 := Box.new (((w.alloc (.cells #[.bool sx, .slice mx nx cx] 25)).alloc (.cells #[.bool sy, .slice my ny cy] 25)).alloc (.cells #[.bool false, .slice none 0 0] 25)) (.bool false) (.slice none 0 0)
  simp only [World.size_alloc] at P3
  replace P3 := P3.step (below_alloc _ (.cells #[.bool false, .slice none 0 0] 25))
  replace P3 := hide P3
  have P4 := Box.new ((((w.alloc (.cells #[.bool sx, .slice mx nx cx] 25)).alloc (.cells #[.bool sy, .slice my ny cy] 25)).alloc (.cells #[.bool false, .slice none 0 0] 25)).alloc (.cells #[.bool false, .slice none 0 0] 25)) (.bool false) (.slice none 0 0)
  simp only [World.size_alloc] at P4
  replace P4 := hide P4
  have HB := below_alloc w (.cells #[.bool sx, .slice mx nx cx] 25)
  replace HB := HB.trans ((below_alloc _ (.cells #[.bool sy, .slice my ny cy] 25)).mono (by simp only [World.size_alloc]; omega))
  replace HB := HB.trans ((below_alloc _ (.cells #[.bool false, .slice none 0 0] 25)).mono (by simp only [World.size_alloc]; omega))
  replace HB := HB.trans ((below_alloc _ (.cells #[.bool false, .slice none 0 0] 25)).mono (by simp only [World.size_alloc]; omega))
  replace HB := HB.trans ((below_alloc _ (.cells #[.bool false, .slice none 0 0] 25)).mono (by simp only [World.size_alloc]; omega))
  replace Ix := hide (Ix.out.below HB)
  replace Iy := hide (Iy.out.below HB)
  replace HB := hide HB
  go_enter Tryd.func7, Tryd.ntmps7
  go_wp2_with fail
  generalize (((((w.alloc (.cells #[.bool sx, .slice mx nx cx] 25)).alloc (.cells #[.bool sy, .slice my ny cy] 25)).alloc (.cells #[.bool false, .slice none 0 0] 25)).alloc (.cells #[.bool false, .slice none 0 0] 25)).alloc (.cells #[.bool false, .slice none 0 0] 25)) = w0 at *
  refine (isign_any _ y _ Iy.out).mono ?_
  rintro e w1 ⟨rfl, hb⟩
  replace Ix := hide (Ix.out.below (hb))
  replace Iy := hide (Iy.out.below (hb))
  replace P0 := hide (P0.out.step (hb))
  replace P1 := hide (P1.out.step (hb))
  replace P2 := hide (P2.out.step (hb))
  replace P3 := hide (P3.out.step (hb))
  replace P4 := hide (P4.out.step (hb))
  replace HB := hide (HB.out.trans ((hb).mono HB.out.size))
  clear hb
  by_cases hy : y = 0
  · have SG : sgnI y = 0 := by rw [hy]; rfl
    rw [SG]
    clear SG
    subst hy
    go_wp2_with fail
    replace P2 := hide P2.out.drew
    replace P3 := hide P3.out.drew
    replace P4 := hide P4.out.drew
    refine wp_calm (fun w' => Below w.heap.size w w' ∧ Box w' w.heap.size (.bool sx) (.slice mx nx cx) ∧ IntAt w' (.agg #[.bool sx, .slice mx nx cx]) x) (fun _ => true) 9 #[false, false, false, false, false, false, false, false, false] (by kernel_rfl) rfl rfl ?_
    have HF := hide (And.intro (HB.out.drew) (And.intro (P0.out.drew) (Ix.out.drew)))
    generalize w1.drew = w1d at *
    refine Calm.take (i := 0) (v := ?_) (a' := ?_) (l' := #[true, false, false, false, false, false, false, false, false]) (d := some 18) rfl (by kernel_rfl) (by kernel_rfl) (by kernel_rfl) (by kernel_rfl) (fun _ _ _ h => h) HF.out rfl ?_ rfl rfl ?_ ?_
    rotate_left
    · intro w' hF; have f10 := hF.2.1.cell0; have f11 := hF.2.1.cell1; clear hF; go_simp; try rfl
    rotate_left
    · simp only [Act.put]; exact rfl
    refine Calm.take (i := 2) (v := ?_) (a' := ?_) (l' := #[true, false, true, false, false, false, false, false, false]) (d := some 20) rfl (by kernel_rfl) (by kernel_rfl) (by kernel_rfl) (by kernel_rfl) (fun _ _ _ h => h) HF.out rfl ?_ rfl rfl ?_ ?_
    rotate_left
    · intro w' hF; have f10 := hF.2.1.cell0; have f11 := hF.2.1.cell1; clear hF; go_simp; try rfl
    rotate_left
    · simp only [Act.put]; exact rfl
    refine Calm.take (i := 5) (v := ?_) (a' := ?_) (l' := #[true, false, true, false, false, true, false, false, false]) (d := some 23) rfl (by kernel_rfl) (by kernel_rfl) (by kernel_rfl) (by kernel_rfl) (fun _ _ _ h => h) HF.out rfl ?_ rfl rfl ?_ ?_
    rotate_left
    · intro w' hF; clear hF; go_simp; try rfl
    rotate_left
    · simp only [Act.put]; exact rfl
    refine Calm.one (i := 1) (l' := #[true, true, true, false, false, true, false, false, false]) (by kernel_rfl) rfl rfl rfl fun K hK => ?_
    go_simp
    refine (iabs_any _ x _ HF.out.2.2).mono ?_
    rintro e u1 ⟨v, rfl, n, hb⟩
    obtain ⟨sa, ma, na, ca, rfl, n⟩ := n.cells
    replace P2 := hide (P2.out.step (hb))
    replace P3 := hide (P3.out.step (hb))
    replace P4 := hide (P4.out.step (hb))
    have HF' := hide (And.intro (HF.out.1.trans ((hb).mono HF.out.1.size)) (And.intro (HF.out.2.1.step (hb)) (HF.out.2.2.below (hb))))
    have TA := hide (n)
    refine hK _ _ (fun _ => HF'.out) ?_
    clear hK K HF hb n
    have HF := hide HF'.out
    clear HF'
    refine Calm.one (i := 3) (l' := #[true, true, true, true, false, true, false, false, false]) (by kernel_rfl) rfl rfl rfl fun K hK => ?_
    go_simp
    refine (isign_any _ x _ HF.out.2.2).mono ?_
    rintro e u2 ⟨rfl, hb⟩
    replace P2 := hide (P2.out.step (hb))
    replace P3 := hide (P3.out.step (hb))
    replace P4 := hide (P4.out.step (hb))
    replace TA := hide (TA.out.below (hb))
    have HF' := hide (And.intro (HF.out.1.trans ((hb).mono HF.out.1.size)) (And.intro (HF.out.2.1.step (hb)) (HF.out.2.2.below (hb))))
    refine hK _ _ (fun _ => HF'.out) ?_
    clear hK K HF hb
    have HF := hide HF'.out
    clear HF'
    refine Calm.one (i := 4) (l' := #[true, true, true, true, true, true, false, false, false]) (by kernel_rfl) rfl rfl rfl fun K hK => ?_
    go_simp
    refine (iof_any (sgnI x) _ (sgnI_lo _) (sgnI_hi _)).mono ?_
    rintro e u3 ⟨v, rfl, n, hb⟩
    obtain ⟨st, mt, nt, ct, rfl, n⟩ := n.cells
    replace P2 := hide (P2.out.step (hb))
    replace P3 := hide (P3.out.step (hb))
    replace P4 := hide (P4.out.step (hb))
    replace TA := hide (TA.out.below (hb))
    have HF' := hide (And.intro (HF.out.1.trans ((hb).mono HF.out.1.size)) (And.intro (HF.out.2.1.step (hb)) (HF.out.2.2.below (hb))))
    have TS := hide (n)
    refine hK _ _ (fun _ => HF'.out) ?_
    clear hK K HF hb n
    have HF := hide HF'.out
    clear HF'
    refine Calm.one (i := 6) (l' := #[true, true, true, true, true, true, true, false, false]) (by kernel_rfl) rfl rfl rfl fun K hK => ?_
    have hc0 := P2.out.cell0
    have hc1 := P2.out.cell1
    have hf0 := P2.out.free 0
    have hf1 := P2.out.free 1
    go_simp
    have HF' := hide (And.intro (below_put HF.out.1 (show w.heap.size ≤ (w.heap.size + 1 + 1) by have hx := LTS.out; omega) (.bool sa) (.slice ma na ca)) (And.intro (HF.out.2.1.other (C := (w.heap.size + 1 + 1)) (by have hx := LTS.out; omega) (.bool sa) (.slice ma na ca)) (HF.out.2.2.keep (P2.out.keeps (by simp) (by simp) (.bool sa) (.slice ma na ca)))))
    replace P3 := hide (P3.out.other (C := (w.heap.size + 1 + 1)) (by have hx := LTS.out; omega) (.bool sa) (.slice ma na ca))
    replace P4 := hide (P4.out.other (C := (w.heap.size + 1 + 1)) (by have hx := LTS.out; omega) (.bool sa) (.slice ma na ca))
    replace TA := hide (TA.out.keep (P2.out.keeps (by simp) (by simp) (.bool sa) (.slice ma na ca)))
    replace TS := hide (TS.out.keep (P2.out.keeps (by simp) (by simp) (.bool sa) (.slice ma na ca)))
    replace P2 := hide (P2.out.put (.bool sa) (.slice ma na ca))
    refine hK _ _ (fun _ => HF'.out) ?_
    clear hK K HF hc0 hf0 hc1 hf1
    have HF := hide HF'.out
    clear HF'
    generalize ((u3.setCell ⟨(w.heap.size + 1 + 1), 0, none⟩ (.bool sa)).setCell ⟨(w.heap.size + 1 + 1), 1, none⟩ (.slice ma na ca)) = ws1 at *
    refine Calm.one (i := 7) (l' := #[true, true, true, true, true, true, true, true, false]) (by kernel_rfl) rfl rfl rfl fun K hK => ?_
    have hc0 := P3.out.cell0
    have hc1 := P3.out.cell1
    have hf0 := P3.out.free 0
    have hf1 := P3.out.free 1
    go_simp
    have HF' := hide (And.intro (below_put HF.out.1 (show w.heap.size ≤ (w.heap.size + 1 + 1 + 1) by have hx := LTS.out; omega) (.bool st) (.slice mt nt ct)) (And.intro (HF.out.2.1.other (C := (w.heap.size + 1 + 1 + 1)) (by have hx := LTS.out; omega) (.bool st) (.slice mt nt ct)) (HF.out.2.2.keep (P3.out.keeps (by simp) (by simp) (.bool st) (.slice mt nt ct)))))
    replace P2 := hide (P2.out.other (C := (w.heap.size + 1 + 1 + 1)) (by have hx := LTS.out; omega) (.bool st) (.slice mt nt ct))
    replace P4 := hide (P4.out.other (C := (w.heap.size + 1 + 1 + 1)) (by have hx := LTS.out; omega) (.bool st) (.slice mt nt ct))
    replace TA := hide (TA.out.keep (P3.out.keeps (by simp) (by simp) (.bool st) (.slice mt nt ct)))
    replace TS := hide (TS.out.keep (P3.out.keeps (by simp) (by simp) (.bool st) (.slice mt nt ct)))
    replace P3 := hide (P3.out.put (.bool st) (.slice mt nt ct))
    refine hK _ _ (fun _ => HF'.out) ?_
    clear hK K HF hc0 hf0 hc1 hf1
    have HF := hide HF'.out
    clear HF'
    generalize ((ws1.setCell ⟨(w.heap.size + 1 + 1 + 1), 0, none⟩ (.bool st)).setCell ⟨(w.heap.size + 1 + 1 + 1), 1, none⟩ (.slice mt nt ct)) = ws2 at *
    refine Calm.one (i := 8) (l' := #[true, true, true, true, true, true, true, true, true]) (by kernel_rfl) rfl rfl rfl fun K hK => ?_
    have hc0 := P4.out.cell0
    have hc1 := P4.out.cell1
    have hf0 := P4.out.free 0
    have hf1 := P4.out.free 1
    go_simp
    have HF' := hide (And.intro (below_put HF.out.1 (show w.heap.size ≤ (w.heap.size + 1 + 1 + 1 + 1) by have hx := LTS.out; omega) (.bool false) (.slice none 0 0)) (And.intro (HF.out.2.1.other (C := (w.heap.size + 1 + 1 + 1 + 1)) (by have hx := LTS.out; omega) (.bool false) (.slice none 0 0)) (HF.out.2.2.keep (P4.out.keeps (by simp) (by simp) (.bool false) (.slice none 0 0)))))
    replace P2 := hide (P2.out.other (C := (w.heap.size + 1 + 1 + 1 + 1)) (by have hx := LTS.out; omega) (.bool false) (.slice none 0 0))
    replace P3 := hide (P3.out.other (C := (w.heap.size + 1 + 1 + 1 + 1)) (by have hx := LTS.out; omega) (.bool false) (.slice none 0 0))
    replace TA := hide (TA.out.keep (P4.out.keeps (by simp) (by simp) (.bool false) (.slice none 0 0)))
    replace TS := hide (TS.out.keep (P4.out.keeps (by simp) (by simp) (.bool false) (.slice none 0 0)))
    replace P4 := hide (P4.out.put (.bool false) (.slice none 0 0))
    refine hK _ _ (fun _ => HF'.out) ?_
    clear hK K HF hc0 hf0 hc1 hf1
    have HF := hide HF'.out
    clear HF'
    generalize ((ws2.setCell ⟨(w.heap.size + 1 + 1 + 1 + 1), 0, none⟩ (.bool false)).setCell ⟨(w.heap.size + 1 + 1 + 1 + 1), 1, none⟩ (.slice none 0 0)) = ws3 at *
    refine Calm.done (by kernel_rfl) ?_
    replace HB := hide HF.out.1
    replace P0 := hide HF.out.2.1
    replace Ix := hide HF.out.2.2
    clear HF
    clear Iy
    clear P1
    go_wp2
    refine ret_iii rfl (w.heap.size + 1 + 1) (w.heap.size + 1 + 1 + 1) (w.heap.size + 1 + 1 + 1 + 1) _ _ _ _ _ _ rfl rfl rfl P2.out P3.out P4.out rfl ?_
    exact ⟨_, _, _, _, _, _, rfl, TA.out, TS.out, int_zero _, bez_zero x, HB.out⟩
  · have SG := sgnI_zero_iff hy
    have HY := hide hy
    clear hy
    generalize sgnI y = sy0 at *
    have hP00 := P0.out.cell0
    have hP01 := P0.out.cell1
    have hP10 := P1.out.cell0
    have hP11 := P1.out.cell1
    go_wp2_with fail
    refine (ieuclid_any _ _ x y _ Ix.out Iy.out (Nat.le_trans (lim_length_le SX.out) HK.out) (Nat.le_trans (lim_length_le SY.out) HK.out) HY.out).mono ?_
    rintro e w2 ⟨a, b, u, rfl, na, nb, hd, hu, hb⟩
    obtain ⟨sg, mg, ng, cg, rfl, na⟩ := na.cells
    obtain ⟨su, mu, nu, cu, rfl, nb⟩ := nb.cells
    have HD := hide hd
    have HU := hide hu
    clear SG hd hu
    clear hP00 hP01
    clear hP10 hP11
    replace Ix := hide (Ix.out.below (hb))
    replace Iy := hide (Iy.out.below (hb))
    replace P0 := hide (P0.out.step (hb))
    replace P1 := hide (P1.out.step (hb))
    replace P2 := hide (P2.out.step (hb))
    replace P3 := hide (P3.out.step (hb))
    replace P4 := hide (P4.out.step (hb))
    replace HB := hide (HB.out.trans ((hb).mono HB.out.size))
    have Ig := hide (na)
    have Iu := hide (nb)
    clear hb na nb
    have SGG : Hid (SzI k (Int.gcd x y : Int)) := hide (Nat.lt_of_le_of_lt (gcd_abs_le HY.out) SY.out)
    have SU : Hid (SzI k u) := hide (Nat.lt_of_le_of_lt HU.out SY.out)
    have BF := hide (bez_fact HY.out HD.out)
    clear HU HD
    generalize (Int.gcd x y : Int) = d at *
    go_upto_region 4 with fail
    have LTG0 : Hid (w.heap.size + 1 + 1 + 1 + 1 < w2.heap.size) := hide P4.out.lt
    have PG := Box.new w2 (.bool sg) (.slice mg ng cg)
    replace PG := PG.step (below_alloc _ (.cells #[.bool su, .slice mu nu cu] 25))
    replace PG := hide PG
    have PU := Box.new (w2.alloc (.cells #[.bool sg, .slice mg ng cg] 25)) (.bool su) (.slice mu nu cu)
    simp only [World.size_alloc] at PU
    replace PU := hide PU
    have al := below_alloc w2 (.cells #[.bool sg, .slice mg ng cg] 25)
    replace al := al.trans ((below_alloc _ (.cells #[.bool su, .slice mu nu cu] 25)).mono (by simp only [World.size_alloc]; omega))
    replace Ix := hide (Ix.out.below (al))
    replace Iy := hide (Iy.out.below (al))
    replace P0 := hide (P0.out.step (al))
    replace P1 := hide (P1.out.step (al))
    replace P2 := hide (P2.out.step (al))
    replace P3 := hide (P3.out.step (al))
    replace P4 := hide (P4.out.step (al))
    replace HB := hide (HB.out.trans ((al).mono HB.out.size))
    replace Ig := hide (Ig.out.below (al))
    replace Iu := hide (Iu.out.below (al))
    clear al
    generalize ((w2.alloc (.cells #[.bool sg, .slice mg ng cg] 25)).alloc (.cells #[.bool su, .slice mu nu cu] 25)) = w2a at *
    generalize w2.heap.size = gg at *
    have hP10 := P1.out.cell0
    have hP11 := P1.out.cell1
    have hPG0 := PG.out.cell0
    have hPG1 := PG.out.cell1
    go_wp2_with fail
    refine (idivmod_any _ _ y d _ Iy.out Ig.out (SzI.len SY.out (by have := HK.out; omega)) (SzI.len SGG.out (by have := HK.out; omega)) BF.out.1).mono ?_
    rintro e w3 ⟨a, b, rfl, na, nb, hb⟩
    obtain ⟨sp, mp, np, cp, rfl, na⟩ := na.cells
    obtain ⟨sr, mr, nr, cr, rfl, nb⟩ := nb.cells
    clear hP10 hP11
    clear hPG0 hPG1
    replace Ix := hide (Ix.out.below (hb))
    replace Iy := hide (Iy.out.below (hb))
    replace P0 := hide (P0.out.step (hb))
    replace P1 := hide (P1.out.step (hb))
    replace P2 := hide (P2.out.step (hb))
    replace P3 := hide (P3.out.step (hb))
    replace P4 := hide (P4.out.step (hb))
    replace HB := hide (HB.out.trans ((hb).mono HB.out.size))
    replace Ig := hide (Ig.out.below (hb))
    replace Iu := hide (Iu.out.below (hb))
    replace PG := hide (PG.out.step (hb))
    replace PU := hide (PU.out.step (hb))
    have Ip := hide (na)
    clear hb na nb
    have SP := hide (SzI.quo SY.out d)
    go_upto_region 5 with fail
    have LT3 : Hid (gg + 1 < w3.heap.size) := hide PU.out.lt
    have PP := Box.new w3 (.bool sp) (.slice mp np cp)
    replace PP := PP.step (below_alloc _ (.cells #[.bool sr, .slice mr nr cr] 25))
    replace PP := hide PP
    have PZ := Box.new (w3.alloc (.cells #[.bool sp, .slice mp np cp] 25)) (.bool sr) (.slice mr nr cr)
    simp only [World.size_alloc] at PZ
    replace PZ := hide PZ
    have al := below_alloc w3 (.cells #[.bool sp, .slice mp np cp] 25)
    replace al := al.trans ((below_alloc _ (.cells #[.bool sr, .slice mr nr cr] 25)).mono (by simp only [World.size_alloc]; omega))
    replace Ix := hide (Ix.out.below (al))
    replace Iy := hide (Iy.out.below (al))
    replace P0 := hide (P0.out.step (al))
    replace P1 := hide (P1.out.step (al))
    replace P2 := hide (P2.out.step (al))
    replace P3 := hide (P3.out.step (al))
    replace P4 := hide (P4.out.step (al))
    replace HB := hide (HB.out.trans ((al).mono HB.out.size))
    replace Ig := hide (Ig.out.below (al))
    replace Iu := hide (Iu.out.below (al))
    replace PG := hide (PG.out.step (al))
    replace PU := hide (PU.out.step (al))
    replace Ip := hide (Ip.out.below (al))
    clear al
    generalize ((w3.alloc (.cells #[.bool sp, .slice mp np cp] 25)).alloc (.cells #[.bool sr, .slice mr nr cr] 25)) = w3a at *
    generalize w3.heap.size = gp at *
    clear PZ
    have hPU0 := PU.out.cell0
    have hPU1 := PU.out.cell1
    have hPP0 := PP.out.cell0
    have hPP1 := PP.out.cell1
    go_wp2_with fail
    refine (idivmod_any _ _ u (y / d) _ Iu.out Ip.out (SzI.len SU.out (by have := HK.out; omega)) (SzI.len SP.out (by have := HK.out; omega)) BF.out.2.1).mono ?_
    rintro e w4 ⟨a, b, rfl, na, nb, hb⟩
    obtain ⟨sa, ma, na', ca, rfl, na⟩ := na.cells
    obtain ⟨sn, mn, nn, cn, rfl, nb⟩ := nb.cells
    clear hPU0 hPU1
    clear hPP0 hPP1
    replace Ix := hide (Ix.out.below (hb))
    replace Iy := hide (Iy.out.below (hb))
    replace P0 := hide (P0.out.step (hb))
    replace P1 := hide (P1.out.step (hb))
    replace P2 := hide (P2.out.step (hb))
    replace P3 := hide (P3.out.step (hb))
    replace P4 := hide (P4.out.step (hb))
    replace HB := hide (HB.out.trans ((hb).mono HB.out.size))
    replace Ig := hide (Ig.out.below (hb))
    replace Iu := hide (Iu.out.below (hb))
    replace PG := hide (PG.out.step (hb))
    replace PU := hide (PU.out.step (hb))
    replace Ip := hide (Ip.out.below (hb))
    replace PP := hide (PP.out.step (hb))
    have In := hide (nb)
    clear hb na nb
    have SN := hide (SzI.rem SP.out u BF.out.2.1)
    clear SU SP
    clear PP
    clear Ip
    clear Iu
    have hPU0 := PU.out.cell0
    have hPU1 := PU.out.cell1
    have fPU0 := PU.out.free 0
    have fPU1 := PU.out.free 1
    go_wp2_with fail
    clear hPU0 hPU1 fPU0 fPU1
    replace Ix := hide (Ix.out.keep (PU.out.keeps (by simp) (by simp) (.bool sn) (.slice mn nn cn)))
    replace Iy := hide (Iy.out.keep (PU.out.keeps (by simp) (by simp) (.bool sn) (.slice mn nn cn)))
    replace P0 := hide (P0.out.other (C := (gg + 1)) (by have hx := LTG0.out; omega) (.bool sn) (.slice mn nn cn))
    replace P1 := hide (P1.out.other (C := (gg + 1)) (by have hx := LTG0.out; omega) (.bool sn) (.slice mn nn cn))
    replace P2 := hide (P2.out.other (C := (gg + 1)) (by have hx := LTG0.out; omega) (.bool sn) (.slice mn nn cn))
    replace P3 := hide (P3.out.other (C := (gg + 1)) (by have hx := LTG0.out; omega) (.bool sn) (.slice mn nn cn))
    replace P4 := hide (P4.out.other (C := (gg + 1)) (by have hx := LTG0.out; omega) (.bool sn) (.slice mn nn cn))
    replace HB := hide (below_put HB.out (show w.heap.size ≤ (gg + 1) by have hx := LTG0.out; omega) (.bool sn) (.slice mn nn cn))
    replace Ig := hide (Ig.out.keep (PU.out.keeps (by simp) (by simp) (.bool sn) (.slice mn nn cn)))
    replace PG := hide (PG.out.other (C := (gg + 1)) (by have hx := LTG0.out; omega) (.bool sn) (.slice mn nn cn))
    replace In := hide (In.out.keep (PU.out.keeps (by simp) (by simp) (.bool sn) (.slice mn nn cn)))
    replace PU := hide (PU.out.put (.bool sn) (.slice mn nn cn))
    generalize ((w4.setCell ⟨(gg + 1), 0, none⟩ (.bool sn)).setCell ⟨(gg + 1), 1, none⟩ (.slice mn nn cn)) = w5 at *
    go_cut [12] from 13 (fun pq wx => ∃ gq sv mv nv cv, pq = .pointer (some ⟨gq, 0, none⟩) ∧ (w.heap.size + 1 + 1 + 1 + 1) < gq ∧ (Below w.heap.size w wx ∧ Box wx (w.heap.size + 1 + 1) (.bool false) (.slice none 0 0) ∧ Box wx (w.heap.size + 1 + 1 + 1) (.bool false) (.slice none 0 0) ∧ Box wx (w.heap.size + 1 + 1 + 1 + 1) (.bool false) (.slice none 0 0) ∧ Box wx gg (.bool sg) (.slice mg ng cg) ∧ Box wx (gg + 1) (.bool sn) (.slice mn nn cn) ∧ IntAt wx (.agg #[.bool sg, .slice mg ng cg]) d ∧ IntAt wx (.agg #[.bool sn, .slice mn nn cn]) (u % (y / d))) ∧ Box wx gq (.bool sv) (.slice mv nv cv) ∧ IntAt wx (.agg #[.bool sv, .slice mv nv cv]) ((d - (u % (y / d)) * x) / y))
    case first =>
      refine wp_calm (fun w' => Below w.heap.size w w' ∧ Box w' w.heap.size (.bool sx) (.slice mx nx cx) ∧ Box w' (w.heap.size + 1) (.bool sy) (.slice my ny cy) ∧ Box w' (w.heap.size + 1 + 1) (.bool false) (.slice none 0 0) ∧ Box w' (w.heap.size + 1 + 1 + 1) (.bool false) (.slice none 0 0) ∧ Box w' (w.heap.size + 1 + 1 + 1 + 1) (.bool false) (.slice none 0 0) ∧ Box w' gg (.bool sg) (.slice mg ng cg) ∧ Box w' (gg + 1) (.bool sn) (.slice mn nn cn) ∧ IntAt w' (.agg #[.bool sx, .slice mx nx cx]) x ∧ IntAt w' (.agg #[.bool sy, .slice my ny cy]) y ∧ IntAt w' (.agg #[.bool sg, .slice mg ng cg]) d ∧ IntAt w' (.agg #[.bool sn, .slice mn nn cn]) (u % (y / d))) (fun _ => true) 16 #[false, false, false, false, false, false, false, false, false, false, false, false, false, false, false, false] (by kernel_rfl) rfl rfl ?_
      have HF := hide (And.intro (HB.out.drew) (And.intro (P0.out.drew) (And.intro (P1.out.drew) (And.intro (P2.out.drew) (And.intro (P3.out.drew) (And.intro (P4.out.drew) (And.intro (PG.out.drew) (And.intro (PU.out.drew) (And.intro (Ix.out.drew) (And.intro (Iy.out.drew) (And.intro (Ig.out.drew) (In.out.drew))))))))))))
      generalize w5.drew = w5d at *
      refine Calm.take (i := 0) (v := ?_) (a' := ?_) (l' := #[true, false, false, false, false, false, false, false, false, false, false, false, false, false, false, false]) (d := some 45) rfl (by kernel_rfl) (by kernel_rfl) (by kernel_rfl) (by kernel_rfl) (fun _ _ _ h => h) HF.out rfl ?_ rfl rfl ?_ ?_
      rotate_left
      · intro w' hF; have f10 := hF.2.1.cell0; have f11 := hF.2.1.cell1; have f20 := hF.2.2.1.cell0; have f21 := hF.2.2.1.cell1; have f30 := hF.2.2.2.1.cell0; have f31 := hF.2.2.2.1.cell1; have f40 := hF.2.2.2.2.1.cell0; have f41 := hF.2.2.2.2.1.cell1; have f50 := hF.2.2.2.2.2.1.cell0; have f51 := hF.2.2.2.2.2.1.cell1; have f60 := hF.2.2.2.2.2.2.1.cell0; have f61 := hF.2.2.2.2.2.2.1.cell1; have f70 := hF.2.2.2.2.2.2.2.1.cell0; have f71 := hF.2.2.2.2.2.2.2.1.cell1; clear hF; go_simp; try rfl
      rotate_left
      · simp only [Act.put]; exact rfl
      refine Calm.take (i := 1) (v := ?_) (a' := ?_) (l' := #[true, true, false, false, false, false, false, false, false, false, false, false, false, false, false, false]) (d := some 46) rfl (by kernel_rfl) (by kernel_rfl) (by kernel_rfl) (by kernel_rfl) (fun _ _ _ h => h) HF.out rfl ?_ rfl rfl ?_ ?_
      rotate_left
      · intro w' hF; have f10 := hF.2.1.cell0; have f11 := hF.2.1.cell1; have f20 := hF.2.2.1.cell0; have f21 := hF.2.2.1.cell1; have f30 := hF.2.2.2.1.cell0; have f31 := hF.2.2.2.1.cell1; have f40 := hF.2.2.2.2.1.cell0; have f41 := hF.2.2.2.2.1.cell1; have f50 := hF.2.2.2.2.2.1.cell0; have f51 := hF.2.2.2.2.2.1.cell1; have f60 := hF.2.2.2.2.2.2.1.cell0; have f61 := hF.2.2.2.2.2.2.1.cell1; have f70 := hF.2.2.2.2.2.2.2.1.cell0; have f71 := hF.2.2.2.2.2.2.2.1.cell1; clear hF; go_simp; try rfl
      rotate_left
      · simp only [Act.put]; exact rfl
      refine Calm.take (i := 2) (v := ?_) (a' := ?_) (l' := #[true, true, true, false, false, false, false, false, false, false, false, false, false, false, false, false]) (d := some 47) rfl (by kernel_rfl) (by kernel_rfl) (by kernel_rfl) (by kernel_rfl) (fun _ _ _ h => h) HF.out rfl ?_ rfl rfl ?_ ?_
      rotate_left
      · intro w' hF; have f10 := hF.2.1.cell0; have f11 := hF.2.1.cell1; have f20 := hF.2.2.1.cell0; have f21 := hF.2.2.1.cell1; have f30 := hF.2.2.2.1.cell0; have f31 := hF.2.2.2.1.cell1; have f40 := hF.2.2.2.2.1.cell0; have f41 := hF.2.2.2.2.1.cell1; have f50 := hF.2.2.2.2.2.1.cell0; have f51 := hF.2.2.2.2.2.1.cell1; have f60 := hF.2.2.2.2.2.2.1.cell0; have f61 := hF.2.2.2.2.2.2.1.cell1; have f70 := hF.2.2.2.2.2.2.2.1.cell0; have f71 := hF.2.2.2.2.2.2.2.1.cell1; clear hF; go_simp; try rfl
      rotate_left
      · simp only [Act.put]; exact rfl
      refine Calm.take (i := 5) (v := ?_) (a' := ?_) (l' := #[true, true, true, false, false, true, false, false, false, false, false, false, false, false, false, false]) (d := some 50) rfl (by kernel_rfl) (by kernel_rfl) (by kernel_rfl) (by kernel_rfl) (fun _ _ _ h => h) HF.out rfl ?_ rfl rfl ?_ ?_
      rotate_left
      · intro w' hF; have f10 := hF.2.1.cell0; have f11 := hF.2.1.cell1; have f20 := hF.2.2.1.cell0; have f21 := hF.2.2.1.cell1; have f30 := hF.2.2.2.1.cell0; have f31 := hF.2.2.2.1.cell1; have f40 := hF.2.2.2.2.1.cell0; have f41 := hF.2.2.2.2.1.cell1; have f50 := hF.2.2.2.2.2.1.cell0; have f51 := hF.2.2.2.2.2.1.cell1; have f60 := hF.2.2.2.2.2.2.1.cell0; have f61 := hF.2.2.2.2.2.2.1.cell1; have f70 := hF.2.2.2.2.2.2.2.1.cell0; have f71 := hF.2.2.2.2.2.2.2.1.cell1; clear hF; go_simp; try rfl
      rotate_left
      · simp only [Act.put]; exact rfl
      refine Calm.three (i := 3) (j := 11) (m := 12) (l := #[true, true, true, true, false, true, false, false, false, false, false, false, false, false, false, false]) (l' := #[true, true, true, false, false, true, false, false, false, false, false, true, false, false, false, false]) (l'' := #[true, true, true, false, false, true, false, false, false, false, false, false, true, false, false, false]) (by kernel_rfl) rfl rfl rfl rfl rfl rfl rfl rfl rfl (fun K hK => ?_) (fun K hK => ?_) (fun K hK => ?_)
      · go_simp
        refine (imul_any _ _ (u % (y / d)) x _ HF.out.2.2.2.2.2.2.2.2.2.2.2 HF.out.2.2.2.2.2.2.2.2.1 (SzI.len SN.out (by have := HK.out; omega)) (SzI.len SX.out (by have := HK.out; omega))).mono ?_
        rintro e u1 ⟨v, rfl, n, hb⟩
        have HF' := hide (And.intro (HF.out.1.trans ((hb).mono HF.out.1.size)) (And.intro (HF.out.2.1.step (hb)) (And.intro (HF.out.2.2.1.step (hb)) (And.intro (HF.out.2.2.2.1.step (hb)) (And.intro (HF.out.2.2.2.2.1.step (hb)) (And.intro (HF.out.2.2.2.2.2.1.step (hb)) (And.intro (HF.out.2.2.2.2.2.2.1.step (hb)) (And.intro (HF.out.2.2.2.2.2.2.2.1.step (hb)) (And.intro (HF.out.2.2.2.2.2.2.2.2.1.below (hb)) (And.intro (HF.out.2.2.2.2.2.2.2.2.2.1.below (hb)) (And.intro (HF.out.2.2.2.2.2.2.2.2.2.2.1.below (hb)) (HF.out.2.2.2.2.2.2.2.2.2.2.2.below (hb)))))))))))))
        have T1 := hide (n)
        refine hK _ _ (fun _ => HF'.out) ?_
        clear hK K HF hb n
        have HF := hide HF'.out
        clear HF'
        refine Calm.three (i := 4) (j := 11) (m := 12) (l := #[true, true, true, true, true, true, false, false, false, false, false, false, false, false, false, false]) (l' := #[true, true, true, true, false, true, false, false, false, false, false, true, false, false, false, false]) (l'' := #[true, true, true, true, false, true, false, false, false, false, false, false, true, false, false, false]) (by kernel_rfl) rfl rfl rfl rfl rfl rfl rfl rfl rfl (fun K hK => ?_) (fun K hK => ?_) (fun K hK => ?_)
        · go_simp
          refine (isub_any _ _ d ((u % (y / d)) * x) _ HF.out.2.2.2.2.2.2.2.2.2.2.1 T1.out (SzI.len SGG.out (by have := HK.out; omega)) (SzI.len (SzI.mul SN.out SX.out) (by have := HK.out; omega))).mono ?_
          rintro e u2 ⟨v, rfl, n, hb⟩
          clear T1
          have HF' := hide (And.intro (HF.out.1.trans ((hb).mono HF.out.1.size)) (And.intro (HF.out.2.1.step (hb)) (And.intro (HF.out.2.2.1.step (hb)) (And.intro (HF.out.2.2.2.1.step (hb)) (And.intro (HF.out.2.2.2.2.1.step (hb)) (And.intro (HF.out.2.2.2.2.2.1.step (hb)) (And.intro (HF.out.2.2.2.2.2.2.1.step (hb)) (And.intro (HF.out.2.2.2.2.2.2.2.1.step (hb)) (And.intro (HF.out.2.2.2.2.2.2.2.2.1.below (hb)) (And.intro (HF.out.2.2.2.2.2.2.2.2.2.1.below (hb)) (And.intro (HF.out.2.2.2.2.2.2.2.2.2.2.1.below (hb)) (HF.out.2.2.2.2.2.2.2.2.2.2.2.below (hb)))))))))))))
          have T2 := hide (n)
          refine hK _ _ (fun _ => HF'.out) ?_
          clear hK K HF hb n
          have HF := hide HF'.out
          clear HF'
          refine Calm.three (i := 6) (j := 11) (m := 12) (l := #[true, true, true, true, true, true, true, false, false, false, false, false, false, false, false, false]) (l' := #[true, true, true, true, true, true, false, false, false, false, false, true, false, false, false, false]) (l'' := #[true, true, true, true, true, true, false, false, false, false, false, false, true, false, false, false]) (by kernel_rfl) rfl rfl rfl rfl rfl rfl rfl rfl rfl (fun K hK => ?_) (fun K hK => ?_) (fun K hK => ?_)
          · go_simp
            refine (idivmod_any _ _ (d - (u % (y / d)) * x) y _ T2.out HF.out.2.2.2.2.2.2.2.2.2.1 (SzI.len (SzI.sub SGG.out (SzI.mul SN.out SX.out)) (by have := HK.out; omega)) (SzI.len SY.out (by have := HK.out; omega)) HY.out).mono ?_
            rintro e u3 ⟨a, b, rfl, na, nb, hb⟩
            obtain ⟨sv, mv, nv, cv, rfl, na⟩ := na.cells
            obtain ⟨sw, mw, nw, cw, rfl, nb⟩ := nb.cells
            clear T2
            have HF' := hide (And.intro (HF.out.1.trans ((hb).mono HF.out.1.size)) (And.intro (HF.out.2.1.step (hb)) (And.intro (HF.out.2.2.1.step (hb)) (And.intro (HF.out.2.2.2.1.step (hb)) (And.intro (HF.out.2.2.2.2.1.step (hb)) (And.intro (HF.out.2.2.2.2.2.1.step (hb)) (And.intro (HF.out.2.2.2.2.2.2.1.step (hb)) (And.intro (HF.out.2.2.2.2.2.2.2.1.step (hb)) (And.intro (HF.out.2.2.2.2.2.2.2.2.1.below (hb)) (And.intro (HF.out.2.2.2.2.2.2.2.2.2.1.below (hb)) (And.intro (HF.out.2.2.2.2.2.2.2.2.2.2.1.below (hb)) (HF.out.2.2.2.2.2.2.2.2.2.2.2.below (hb)))))))))))))
            have TV := hide (na)
            have TW := hide (nb)
            refine hK _ _ (fun _ => HF'.out) ?_
            clear hK K HF hb na nb
            have HF := hide HF'.out
            clear HF'
            refine Calm.take (i := 7) (v := ?_) (a' := ?_) (l' := #[true, true, true, true, true, true, true, true, false, false, false, false, false, false, false, false]) (d := some 44) rfl (by kernel_rfl) (by kernel_rfl) (by kernel_rfl) (by kernel_rfl) (fun _ _ _ h => h) HF.out rfl ?_ rfl rfl ?_ ?_
            rotate_left
            · intro w' hF; clear hF; go_simp; try rfl
            rotate_left
            · simp only [Act.put]; exact rfl
            refine Calm.take (i := 8) (v := ?_) (a' := ?_) (l' := #[true, true, true, true, true, true, true, true, true, false, false, false, false, false, false, false]) (d := some 52) rfl (by kernel_rfl) (by kernel_rfl) (by kernel_rfl) (by kernel_rfl) (fun _ _ _ h => h) HF.out rfl ?_ rfl rfl ?_ ?_
            rotate_left
            · intro w' hF; clear hF; go_simp; try rfl
            rotate_left
            · simp only [Act.put]; exact rfl
            refine Calm.take (i := 9) (v := ?_) (a' := ?_) (l' := #[true, true, true, true, true, true, true, true, true, true, false, false, false, false, false, false]) (d := some 53) rfl (by kernel_rfl) (by kernel_rfl) (by kernel_rfl) (by kernel_rfl) (fun _ _ _ h => h) HF.out rfl ?_ rfl rfl ?_ ?_
            rotate_left
            · intro w' hF; clear hF; go_simp; try rfl
            rotate_left
            · simp only [Act.put]; exact rfl
            refine Calm.take (i := 10) (v := ?_) (a' := ?_) (l' := #[true, true, true, true, true, true, true, true, true, true, true, false, false, false, false, false]) (d := some 54) rfl (by kernel_rfl) (by kernel_rfl) (by kernel_rfl) (by kernel_rfl) (fun _ _ _ h => h) HF.out rfl ?_ rfl rfl ?_ ?_
            rotate_left
            · intro w' hF; clear hF; go_simp; try rfl
            rotate_left
            · simp only [Act.put]; exact rfl
            refine Calm.two (i := 11) (j := 12) (l := #[true, true, true, true, true, true, true, true, true, true, true, true, false, false, false, false]) (l' := #[true, true, true, true, true, true, true, true, true, true, true, false, true, false, false, false]) (by kernel_rfl) rfl rfl rfl rfl rfl rfl (fun K hK => ?_) (fun K hK => ?_)
            · go_simp
              have al := below_alloc u3 (.cells #[.bool false, .slice none 0 0] 25)
              have HF' := hide (And.intro (HF.out.1.trans ((al).mono HF.out.1.size)) (And.intro (HF.out.2.1.step (al)) (And.intro (HF.out.2.2.1.step (al)) (And.intro (HF.out.2.2.2.1.step (al)) (And.intro (HF.out.2.2.2.2.1.step (al)) (And.intro (HF.out.2.2.2.2.2.1.step (al)) (And.intro (HF.out.2.2.2.2.2.2.1.step (al)) (And.intro (HF.out.2.2.2.2.2.2.2.1.step (al)) (And.intro (HF.out.2.2.2.2.2.2.2.2.1.below (al)) (And.intro (HF.out.2.2.2.2.2.2.2.2.2.1.below (al)) (And.intro (HF.out.2.2.2.2.2.2.2.2.2.2.1.below (al)) (HF.out.2.2.2.2.2.2.2.2.2.2.2.below (al)))))))))))))
              have BXq := hide (Box.new u3 (.bool false) (.slice none 0 0))
              replace TV := hide (TV.out.below (al))
              replace TW := hide (TW.out.below (al))
              have LT1q := hide (HF.out.2.1.lt)
              have LT2q := hide (HF.out.2.2.1.lt)
              have LT3q := hide (HF.out.2.2.2.1.lt)
              have LT4q := hide (HF.out.2.2.2.2.1.lt)
              have LT5q := hide (HF.out.2.2.2.2.2.1.lt)
              have LT6q := hide (HF.out.2.2.2.2.2.2.1.lt)
              have LT7q := hide (HF.out.2.2.2.2.2.2.2.1.lt)
              have GEq := hide (HF.out.1.size)
              refine hK _ _ (fun _ => HF'.out) ?_
              clear hK K HF al
              have HF := hide HF'.out
              clear HF'
              generalize u3.alloc (.cells #[.bool false, .slice none 0 0] 25) = wzq at *
              generalize u3.heap.size = gq at *
              refine Calm.one (i := 12) (l' := #[true, true, true, true, true, true, true, true, true, true, true, true, true, false, false, false]) (by kernel_rfl) rfl rfl rfl fun K hK => ?_
              go_simp
              have al := below_alloc wzq (.cells #[.bool false, .slice none 0 0] 25)
              have HF' := hide (And.intro (HF.out.1.trans ((al).mono HF.out.1.size)) (And.intro (HF.out.2.1.step (al)) (And.intro (HF.out.2.2.1.step (al)) (And.intro (HF.out.2.2.2.1.step (al)) (And.intro (HF.out.2.2.2.2.1.step (al)) (And.intro (HF.out.2.2.2.2.2.1.step (al)) (And.intro (HF.out.2.2.2.2.2.2.1.step (al)) (And.intro (HF.out.2.2.2.2.2.2.2.1.step (al)) (And.intro (HF.out.2.2.2.2.2.2.2.2.1.below (al)) (And.intro (HF.out.2.2.2.2.2.2.2.2.2.1.below (al)) (And.intro (HF.out.2.2.2.2.2.2.2.2.2.2.1.below (al)) (HF.out.2.2.2.2.2.2.2.2.2.2.2.below (al)))))))))))))
              have BXr := hide (Box.new wzq (.bool false) (.slice none 0 0))
              replace TV := hide (TV.out.below (al))
              replace TW := hide (TW.out.below (al))
              have LTqr := hide (BXq.out.lt)
              replace BXq := hide (BXq.out.step al)
              have LT1r := hide (HF.out.2.1.lt)
              have LT2r := hide (HF.out.2.2.1.lt)
              have LT3r := hide (HF.out.2.2.2.1.lt)
              have LT4r := hide (HF.out.2.2.2.2.1.lt)
              have LT5r := hide (HF.out.2.2.2.2.2.1.lt)
              have LT6r := hide (HF.out.2.2.2.2.2.2.1.lt)
              have LT7r := hide (HF.out.2.2.2.2.2.2.2.1.lt)
              have GEr := hide (HF.out.1.size)
              refine hK _ _ (fun _ => HF'.out) ?_
              clear hK K HF al
              have HF := hide HF'.out
              clear HF'
              generalize wzq.alloc (.cells #[.bool false, .slice none 0 0] 25) = wzr at *
              generalize wzq.heap.size = gr at *
              refine Calm.one (i := 13) (l' := #[true, true, true, true, true, true, true, true, true, true, true, true, true, true, false, false]) (by kernel_rfl) rfl rfl rfl fun K hK => ?_
              clear LTS
              have LTS := hide (And.intro (LT1q.out) (And.intro (LT2q.out) (And.intro (LT3q.out) (And.intro (LT4q.out) (And.intro (LT5q.out) (And.intro (LT6q.out) (And.intro (LT7q.out) (And.intro (LT1r.out) (And.intro (LT2r.out) (And.intro (LT3r.out) (And.intro (LT4r.out) (And.intro (LT5r.out) (And.intro (LT6r.out) (And.intro (LT7r.out) ((show gq ≠ gr by first | exact Nat.ne_of_lt LTqr.out | exact Nat.ne_of_gt LTrq.out))))))))))))))))
              have hc0 := BXq.out.cell0
              have hc1 := BXq.out.cell1
              have hf0 := BXq.out.free 0
              have hf1 := BXq.out.free 1
              go_simp
              have HF' := hide (And.intro (below_put HF.out.1 (show w.heap.size ≤ gq by have hx := LTS.out; omega) (.bool sv) (.slice mv nv cv)) (And.intro (HF.out.2.1.other (C := gq) (by have hx := LTS.out; omega) (.bool sv) (.slice mv nv cv)) (And.intro (HF.out.2.2.1.other (C := gq) (by have hx := LTS.out; omega) (.bool sv) (.slice mv nv cv)) (And.intro (HF.out.2.2.2.1.other (C := gq) (by have hx := LTS.out; omega) (.bool sv) (.slice mv nv cv)) (And.intro (HF.out.2.2.2.2.1.other (C := gq) (by have hx := LTS.out; omega) (.bool sv) (.slice mv nv cv)) (And.intro (HF.out.2.2.2.2.2.1.other (C := gq) (by have hx := LTS.out; omega) (.bool sv) (.slice mv nv cv)) (And.intro (HF.out.2.2.2.2.2.2.1.other (C := gq) (by have hx := LTS.out; omega) (.bool sv) (.slice mv nv cv)) (And.intro (HF.out.2.2.2.2.2.2.2.1.other (C := gq) (by have hx := LTS.out; omega) (.bool sv) (.slice mv nv cv)) (And.intro (HF.out.2.2.2.2.2.2.2.2.1.keep (BXq.out.keeps (by simp) (by simp) (.bool sv) (.slice mv nv cv))) (And.intro (HF.out.2.2.2.2.2.2.2.2.2.1.keep (BXq.out.keeps (by simp) (by simp) (.bool sv) (.slice mv nv cv))) (And.intro (HF.out.2.2.2.2.2.2.2.2.2.2.1.keep (BXq.out.keeps (by simp) (by simp) (.bool sv) (.slice mv nv cv))) (HF.out.2.2.2.2.2.2.2.2.2.2.2.keep (BXq.out.keeps (by simp) (by simp) (.bool sv) (.slice mv nv cv))))))))))))))
              replace TV := hide (TV.out.keep (BXq.out.keeps (by simp) (by simp) (.bool sv) (.slice mv nv cv)))
              replace TW := hide (TW.out.keep (BXq.out.keeps (by simp) (by simp) (.bool sv) (.slice mv nv cv)))
              replace BXr := hide (BXr.out.other (C := gq) (by have hx := LTS.out; omega) (.bool sv) (.slice mv nv cv))
              replace BXq := hide (BXq.out.put (.bool sv) (.slice mv nv cv))
              refine hK _ _ (fun _ => HF'.out) ?_
              clear hK K HF hc0 hf0 hc1 hf1
              have HF := hide HF'.out
              clear HF'
              generalize ((wzr.setCell ⟨gq, 0, none⟩ (.bool sv)).setCell ⟨gq, 1, none⟩ (.slice mv nv cv)) = ws1 at *
              refine Calm.one (i := 14) (l' := #[true, true, true, true, true, true, true, true, true, true, true, true, true, true, true, false]) (by kernel_rfl) rfl rfl rfl fun K hK => ?_
              have hc0 := BXr.out.cell0
              have hc1 := BXr.out.cell1
              have hf0 := BXr.out.free 0
              have hf1 := BXr.out.free 1
              go_simp
              have HF' := hide (And.intro (below_put HF.out.1 (show w.heap.size ≤ gr by have hx := LTS.out; omega) (.bool sw) (.slice mw nw cw)) (And.intro (HF.out.2.1.other (C := gr) (by have hx := LTS.out; omega) (.bool sw) (.slice mw nw cw)) (And.intro (HF.out.2.2.1.other (C := gr) (by have hx := LTS.out; omega) (.bool sw) (.slice mw nw cw)) (And.intro (HF.out.2.2.2.1.other (C := gr) (by have hx := LTS.out; omega) (.bool sw) (.slice mw nw cw)) (And.intro (HF.out.2.2.2.2.1.other (C := gr) (by have hx := LTS.out; omega) (.bool sw) (.slice mw nw cw)) (And.intro (HF.out.2.2.2.2.2.1.other (C := gr) (by have hx := LTS.out; omega) (.bool sw) (.slice mw nw cw)) (And.intro (HF.out.2.2.2.2.2.2.1.other (C := gr) (by have hx := LTS.out; omega) (.bool sw) (.slice mw nw cw)) (And.intro (HF.out.2.2.2.2.2.2.2.1.other (C := gr) (by have hx := LTS.out; omega) (.bool sw) (.slice mw nw cw)) (And.intro (HF.out.2.2.2.2.2.2.2.2.1.keep (BXr.out.keeps (by simp) (by simp) (.bool sw) (.slice mw nw cw))) (And.intro (HF.out.2.2.2.2.2.2.2.2.2.1.keep (BXr.out.keeps (by simp) (by simp) (.bool sw) (.slice mw nw cw))) (And.intro (HF.out.2.2.2.2.2.2.2.2.2.2.1.keep (BXr.out.keeps (by simp) (by simp) (.bool sw) (.slice mw nw cw))) (HF.out.2.2.2.2.2.2.2.2.2.2.2.keep (BXr.out.keeps (by simp) (by simp) (.bool sw) (.slice mw nw cw))))))))))))))
              replace TV := hide (TV.out.keep (BXr.out.keeps (by simp) (by simp) (.bool sw) (.slice mw nw cw)))
              replace TW := hide (TW.out.keep (BXr.out.keeps (by simp) (by simp) (.bool sw) (.slice mw nw cw)))
              replace BXq := hide (BXq.out.other (C := gr) (by have hx := LTS.out; omega) (.bool sw) (.slice mw nw cw))
              replace BXr := hide (BXr.out.put (.bool sw) (.slice mw nw cw))
              refine hK _ _ (fun _ => HF'.out) ?_
              clear hK K HF hc0 hf0 hc1 hf1
              have HF := hide HF'.out
              clear HF'
              generalize ((ws1.setCell ⟨gr, 0, none⟩ (.bool sw)).setCell ⟨gr, 1, none⟩ (.slice mw nw cw)) = ws2 at *
              refine Calm.take (i := 15) (v := ?_) (a' := ?_) (l' := #[true, true, true, true, true, true, true, true, true, true, true, true, true, true, true, true]) (d := some 14) rfl (by kernel_rfl) (by kernel_rfl) (by kernel_rfl) (by kernel_rfl) (fun _ _ _ h => h) HF.out rfl ?_ rfl rfl ?_ ?_
              rotate_left
              · intro w' hF; clear hF; go_simp; try rfl
              rotate_left
              · simp only [Act.put]; exact rfl
              refine Calm.done (by kernel_rfl) ?_
              go_wp2
              go_meet
              case rel => exact ⟨gq, sv, mv, nv, cv, rfl, (by have hx := LTS.out; omega), ⟨HF.out.1, HF.out.2.2.2.1, HF.out.2.2.2.2.1, HF.out.2.2.2.2.2.1, HF.out.2.2.2.2.2.2.1, HF.out.2.2.2.2.2.2.2.1, HF.out.2.2.2.2.2.2.2.2.2.2.1, HF.out.2.2.2.2.2.2.2.2.2.2.2⟩, BXq.out, TV.out⟩
            · go_simp
              have al := below_alloc u3 (.cells #[.bool false, .slice none 0 0] 25)
              have HF' := hide (And.intro (HF.out.1.trans ((al).mono HF.out.1.size)) (And.intro (HF.out.2.1.step (al)) (And.intro (HF.out.2.2.1.step (al)) (And.intro (HF.out.2.2.2.1.step (al)) (And.intro (HF.out.2.2.2.2.1.step (al)) (And.intro (HF.out.2.2.2.2.2.1.step (al)) (And.intro (HF.out.2.2.2.2.2.2.1.step (al)) (And.intro (HF.out.2.2.2.2.2.2.2.1.step (al)) (And.intro (HF.out.2.2.2.2.2.2.2.2.1.below (al)) (And.intro (HF.out.2.2.2.2.2.2.2.2.2.1.below (al)) (And.intro (HF.out.2.2.2.2.2.2.2.2.2.2.1.below (al)) (HF.out.2.2.2.2.2.2.2.2.2.2.2.below (al)))))))))))))
              have BXr := hide (Box.new u3 (.bool false) (.slice none 0 0))
              replace TV := hide (TV.out.below (al))
              replace TW := hide (TW.out.below (al))
              have LT1r := hide (HF.out.2.1.lt)
              have LT2r := hide (HF.out.2.2.1.lt)
              have LT3r := hide (HF.out.2.2.2.1.lt)
              have LT4r := hide (HF.out.2.2.2.2.1.lt)
              have LT5r := hide (HF.out.2.2.2.2.2.1.lt)
              have LT6r := hide (HF.out.2.2.2.2.2.2.1.lt)
              have LT7r := hide (HF.out.2.2.2.2.2.2.2.1.lt)
              have GEr := hide (HF.out.1.size)
              refine hK _ _ (fun _ => HF'.out) ?_
              clear hK K HF al
              have HF := hide HF'.out
              clear HF'
              generalize u3.alloc (.cells #[.bool false, .slice none 0 0] 25) = wzr at *
              generalize u3.heap.size = gr at *
              refine Calm.one (i := 11) (l' := #[true, true, true, true, true, true, true, true, true, true, true, true, true, false, false, false]) (by kernel_rfl) rfl rfl rfl fun K hK => ?_
              go_simp
              have al := below_alloc wzr (.cells #[.bool false, .slice none 0 0] 25)
              have HF' := hide (And.intro (HF.out.1.trans ((al).mono HF.out.1.size)) (And.intro (HF.out.2.1.step (al)) (And.intro (HF.out.2.2.1.step (al)) (And.intro (HF.out.2.2.2.1.step (al)) (And.intro (HF.out.2.2.2.2.1.step (al)) (And.intro (HF.out.2.2.2.2.2.1.step (al)) (And.intro (HF.out.2.2.2.2.2.2.1.step (al)) (And.intro (HF.out.2.2.2.2.2.2.2.1.step (al)) (And.intro (HF.out.2.2.2.2.2.2.2.2.1.below (al)) (And.intro (HF.out.2.2.2.2.2.2.2.2.2.1.below (al)) (And.intro (HF.out.2.2.2.2.2.2.2.2.2.2.1.below (al)) (HF.out.2.2.2.2.2.2.2.2.2.2.2.below (al)))))))))))))
              have BXq := hide (Box.new wzr (.bool false) (.slice none 0 0))
              replace TV := hide (TV.out.below (al))
              replace TW := hide (TW.out.below (al))
              have LTrq := hide (BXr.out.lt)
              replace BXr := hide (BXr.out.step al)
              have LT1q := hide (HF.out.2.1.lt)
              have LT2q := hide (HF.out.2.2.1.lt)
              have LT3q := hide (HF.out.2.2.2.1.lt)
              have LT4q := hide (HF.out.2.2.2.2.1.lt)
              have LT5q := hide (HF.out.2.2.2.2.2.1.lt)
              have LT6q := hide (HF.out.2.2.2.2.2.2.1.lt)
              have LT7q := hide (HF.out.2.2.2.2.2.2.2.1.lt)
              have GEq := hide (HF.out.1.size)
              refine hK _ _ (fun _ => HF'.out) ?_
              clear hK K HF al
              have HF := hide HF'.out
              clear HF'
              generalize wzr.alloc (.cells #[.bool false, .slice none 0 0] 25) = wzq at *
              generalize wzr.heap.size = gq at *
              refine Calm.one (i := 13) (l' := #[true, true, true, true, true, true, true, true, true, true, true, true, true, true, false, false]) (by kernel_rfl) rfl rfl rfl fun K hK => ?_
              clear LTS
              have LTS := hide (And.intro (LT1q.out) (And.intro (LT2q.out) (And.intro (LT3q.out) (And.intro (LT4q.out) (And.intro (LT5q.out) (And.intro (LT6q.out) (And.intro (LT7q.out) (And.intro (LT1r.out) (And.intro (LT2r.out) (And.intro (LT3r.out) (And.intro (LT4r.out) (And.intro (LT5r.out) (And.intro (LT6r.out) (And.intro (LT7r.out) ((show gq ≠ gr by first | exact Nat.ne_of_lt LTqr.out | exact Nat.ne_of_gt LTrq.out))))))))))))))))
              have hc0 := BXq.out.cell0
              have hc1 := BXq.out.cell1
              have hf0 := BXq.out.free 0
              have hf1 := BXq.out.free 1
              go_simp
              have HF' := hide (And.intro (below_put HF.out.1 (show w.heap.size ≤ gq by have hx := LTS.out; omega) (.bool sv) (.slice mv nv cv)) (And.intro (HF.out.2.1.other (C := gq) (by have hx := LTS.out; omega) (.bool sv) (.slice mv nv cv)) (And.intro (HF.out.2.2.1.other (C := gq) (by have hx := LTS.out; omega) (.bool sv) (.slice mv nv cv)) (And.intro (HF.out.2.2.2.1.other (C := gq) (by have hx := LTS.out; omega) (.bool sv) (.slice mv nv cv)) (And.intro (HF.out.2.2.2.2.1.other (C := gq) (by have hx := LTS.out; omega) (.bool sv) (.slice mv nv cv)) (And.intro (HF.out.2.2.2.2.2.1.other (C := gq) (by have hx := LTS.out; omega) (.bool sv) (.slice mv nv cv)) (And.intro (HF.out.2.2.2.2.2.2.1.other (C := gq) (by have hx := LTS.out; omega) (.bool sv) (.slice mv nv cv)) (And.intro (HF.out.2.2.2.2.2.2.2.1.other (C := gq) (by have hx := LTS.out; omega) (.bool sv) (.slice mv nv cv)) (And.intro (HF.out.2.2.2.2.2.2.2.2.1.keep (BXq.out.keeps (by simp) (by simp) (.bool sv) (.slice mv nv cv))) (And.intro (HF.out.2.2.2.2.2.2.2.2.2.1.keep (BXq.out.keeps (by simp) (by simp) (.bool sv) (.slice mv nv cv))) (And.intro (HF.out.2.2.2.2.2.2.2.2.2.2.1.keep (BXq.out.keeps (by simp) (by simp) (.bool sv) (.slice mv nv cv))) (HF.out.2.2.2.2.2.2.2.2.2.2.2.keep (BXq.out.keeps (by simp) (by simp) (.bool sv) (.slice mv nv cv))))))))))))))
              replace TV := hide (TV.out.keep (BXq.out.keeps (by simp) (by simp) (.bool sv) (.slice mv nv cv)))
              replace TW := hide (TW.out.keep (BXq.out.keeps (by simp) (by simp) (.bool sv) (.slice mv nv cv)))
              replace BXr := hide (BXr.out.other (C := gq) (by have hx := LTS.out; omega) (.bool sv) (.slice mv nv cv))
              replace BXq := hide (BXq.out.put (.bool sv) (.slice mv nv cv))
              refine hK _ _ (fun _ => HF'.out) ?_
              clear hK K HF hc0 hf0 hc1 hf1
              have HF := hide HF'.out
              clear HF'
              generalize ((wzq.setCell ⟨gq, 0, none⟩ (.bool sv)).setCell ⟨gq, 1, none⟩ (.slice mv nv cv)) = ws1 at *
              refine Calm.one (i := 14) (l' := #[true, true, true, true, true, true, true, true, true, true, true, true, true, true, true, false]) (by kernel_rfl) rfl rfl rfl fun K hK => ?_
              have hc0 := BXr.out.cell0
              have hc1 := BXr.out.cell1
              have hf0 := BXr.out.free 0
              have hf1 := BXr.out.free 1
              go_simp
              have HF' := hide (And.intro (below_put HF.out.1 (show w.heap.size ≤ gr by have hx := LTS.out; omega) (.bool sw) (.slice mw nw cw)) (And.intro (HF.out.2.1.other (C := gr) (by have hx := LTS.out; omega) (.bool sw) (.slice mw nw cw)) (And.intro (HF.out.2.2.1.other (C := gr) (by have hx := LTS.out; omega) (.bool sw) (.slice mw nw cw)) (And.intro (HF.out.2.2.2.1.other (C := gr) (by have hx := LTS.out; omega) (.bool sw) (.slice mw nw cw)) (And.intro (HF.out.2.2.2.2.1.other (C := gr) (by have hx := LTS.out; omega) (.bool sw) (.slice mw nw cw)) (And.intro (HF.out.2.2.2.2.2.1.other (C := gr) (by have hx := LTS.out; omega) (.bool sw) (.slice mw nw cw)) (And.intro (HF.out.2.2.2.2.2.2.1.other (C := gr) (by have hx := LTS.out; omega) (.bool sw) (.slice mw nw cw)) (And.intro (HF.out.2.2.2.2.2.2.2.1.other (C := gr) (by have hx := LTS.out; omega) (.bool sw) (.slice mw nw cw)) (And.intro (HF.out.2.2.2.2.2.2.2.2.1.keep (BXr.out.keeps (by simp) (by simp) (.bool sw) (.slice mw nw cw))) (And.intro (HF.out.2.2.2.2.2.2.2.2.2.1.keep (BXr.out.keeps (by simp) (by simp) (.bool sw) (.slice mw nw cw))) (And.intro (HF.out.2.2.2.2.2.2.2.2.2.2.1.keep (BXr.out.keeps (by simp) (by simp) (.bool sw) (.slice mw nw cw))) (HF.out.2.2.2.2.2.2.2.2.2.2.2.keep (BXr.out.keeps (by simp) (by simp) (.bool sw) (.slice mw nw cw))))))))))))))
              replace TV := hide (TV.out.keep (BXr.out.keeps (by simp) (by simp) (.bool sw) (.slice mw nw cw)))
              replace TW := hide (TW.out.keep (BXr.out.keeps (by simp) (by simp) (.bool sw) (.slice mw nw cw)))
              replace BXq := hide (BXq.out.other (C := gr) (by have hx := LTS.out; omega) (.bool sw) (.slice mw nw cw))
              replace BXr := hide (BXr.out.put (.bool sw) (.slice mw nw cw))
              refine hK _ _ (fun _ => HF'.out) ?_
              clear hK K HF hc0 hf0 hc1 hf1
              have HF := hide HF'.out
              clear HF'
              generalize ((ws1.setCell ⟨gr, 0, none⟩ (.bool sw)).setCell ⟨gr, 1, none⟩ (.slice mw nw cw)) = ws2 at *
              refine Calm.take (i := 15) (v := ?_) (a' := ?_) (l' := #[true, true, true, true, true, true, true, true, true, true, true, true, true, true, true, true]) (d := some 14) rfl (by kernel_rfl) (by kernel_rfl) (by kernel_rfl) (by kernel_rfl) (fun _ _ _ h => h) HF.out rfl ?_ rfl rfl ?_ ?_
              rotate_left
              · intro w' hF; clear hF; go_simp; try rfl
              rotate_left
              · simp only [Act.put]; exact rfl
              refine Calm.done (by kernel_rfl) ?_
              go_wp2
              go_meet
              case rel => exact ⟨gq, sv, mv, nv, cv, rfl, (by have hx := LTS.out; omega), ⟨HF.out.1, HF.out.2.2.2.1, HF.out.2.2.2.2.1, HF.out.2.2.2.2.2.1, HF.out.2.2.2.2.2.2.1, HF.out.2.2.2.2.2.2.2.1, HF.out.2.2.2.2.2.2.2.2.2.2.1, HF.out.2.2.2.2.2.2.2.2.2.2.2⟩, BXq.out, TV.out⟩
          · go_simp
            have al := below_alloc u2 (.cells #[.bool false, .slice none 0 0] 25)
            have HF' := hide (And.intro (HF.out.1.trans ((al).mono HF.out.1.size)) (And.intro (HF.out.2.1.step (al)) (And.intro (HF.out.2.2.1.step (al)) (And.intro (HF.out.2.2.2.1.step (al)) (And.intro (HF.out.2.2.2.2.1.step (al)) (And.intro (HF.out.2.2.2.2.2.1.step (al)) (And.intro (HF.out.2.2.2.2.2.2.1.step (al)) (And.intro (HF.out.2.2.2.2.2.2.2.1.step (al)) (And.intro (HF.out.2.2.2.2.2.2.2.2.1.below (al)) (And.intro (HF.out.2.2.2.2.2.2.2.2.2.1.below (al)) (And.intro (HF.out.2.2.2.2.2.2.2.2.2.2.1.below (al)) (HF.out.2.2.2.2.2.2.2.2.2.2.2.below (al)))))))))))))
            have BXq := hide (Box.new u2 (.bool false) (.slice none 0 0))
            replace T2 := hide (T2.out.below (al))
            have LT1q := hide (HF.out.2.1.lt)
            have LT2q := hide (HF.out.2.2.1.lt)
            have LT3q := hide (HF.out.2.2.2.1.lt)
            have LT4q := hide (HF.out.2.2.2.2.1.lt)
            have LT5q := hide (HF.out.2.2.2.2.2.1.lt)
            have LT6q := hide (HF.out.2.2.2.2.2.2.1.lt)
            have LT7q := hide (HF.out.2.2.2.2.2.2.2.1.lt)
            have GEq := hide (HF.out.1.size)
            refine hK _ _ (fun _ => HF'.out) ?_
            clear hK K HF al
            have HF := hide HF'.out
            clear HF'
            generalize u2.alloc (.cells #[.bool false, .slice none 0 0] 25) = wzq at *
            generalize u2.heap.size = gq at *
            refine Calm.two (i := 6) (j := 12) (l := #[true, true, true, true, true, true, true, false, false, false, false, true, false, false, false, false]) (l' := #[true, true, true, true, true, true, false, false, false, false, false, true, true, false, false, false]) (by kernel_rfl) rfl rfl rfl rfl rfl rfl (fun K hK => ?_) (fun K hK => ?_)
            · go_simp
              refine (idivmod_any _ _ (d - (u % (y / d)) * x) y _ T2.out HF.out.2.2.2.2.2.2.2.2.2.1 (SzI.len (SzI.sub SGG.out (SzI.mul SN.out SX.out)) (by have := HK.out; omega)) (SzI.len SY.out (by have := HK.out; omega)) HY.out).mono ?_
              rintro e u3 ⟨a, b, rfl, na, nb, hb⟩
              obtain ⟨sv, mv, nv, cv, rfl, na⟩ := na.cells
              obtain ⟨sw, mw, nw, cw, rfl, nb⟩ := nb.cells
              clear T2
              replace BXq := hide (BXq.out.step hb)
              have HF' := hide (And.intro (HF.out.1.trans ((hb).mono HF.out.1.size)) (And.intro (HF.out.2.1.step (hb)) (And.intro (HF.out.2.2.1.step (hb)) (And.intro (HF.out.2.2.2.1.step (hb)) (And.intro (HF.out.2.2.2.2.1.step (hb)) (And.intro (HF.out.2.2.2.2.2.1.step (hb)) (And.intro (HF.out.2.2.2.2.2.2.1.step (hb)) (And.intro (HF.out.2.2.2.2.2.2.2.1.step (hb)) (And.intro (HF.out.2.2.2.2.2.2.2.2.1.below (hb)) (And.intro (HF.out.2.2.2.2.2.2.2.2.2.1.below (hb)) (And.intro (HF.out.2.2.2.2.2.2.2.2.2.2.1.below (hb)) (HF.out.2.2.2.2.2.2.2.2.2.2.2.below (hb)))))))))))))
              have TV := hide (na)
              have TW := hide (nb)
              refine hK _ _ (fun _ => HF'.out) ?_
              clear hK K HF hb na nb
              have HF := hide HF'.out
              clear HF'
              refine Calm.take (i := 7) (v := ?_) (a' := ?_) (l' := #[true, true, true, true, true, true, true, true, false, false, false, true, false, false, false, false]) (d := some 44) rfl (by kernel_rfl) (by kernel_rfl) (by kernel_rfl) (by kernel_rfl) (fun _ _ _ h => h) HF.out rfl ?_ rfl rfl ?_ ?_
              rotate_left
              · intro w' hF; clear hF; go_simp; try rfl
              rotate_left
              · simp only [Act.put]; exact rfl
              refine Calm.take (i := 8) (v := ?_) (a' := ?_) (l' := #[true, true, true, true, true, true, true, true, true, false, false, true, false, false, false, false]) (d := some 52) rfl (by kernel_rfl) (by kernel_rfl) (by kernel_rfl) (by kernel_rfl) (fun _ _ _ h => h) HF.out rfl ?_ rfl rfl ?_ ?_
              rotate_left
              · intro w' hF; clear hF; go_simp; try rfl
              rotate_left
              · simp only [Act.put]; exact rfl
              refine Calm.take (i := 9) (v := ?_) (a' := ?_) (l' := #[true, true, true, true, true, true, true, true, true, true, false, true, false, false, false, false]) (d := some 53) rfl (by kernel_rfl) (by kernel_rfl) (by kernel_rfl) (by kernel_rfl) (fun _ _ _ h => h) HF.out rfl ?_ rfl rfl ?_ ?_
              rotate_left
              · intro w' hF; clear hF; go_simp; try rfl
              rotate_left
              · simp only [Act.put]; exact rfl
              refine Calm.take (i := 10) (v := ?_) (a' := ?_) (l' := #[true, true, true, true, true, true, true, true, true, true, true, true, false, false, false, false]) (d := some 54) rfl (by kernel_rfl) (by kernel_rfl) (by kernel_rfl) (by kernel_rfl) (fun _ _ _ h => h) HF.out rfl ?_ rfl rfl ?_ ?_
              rotate_left
              · intro w' hF; clear hF; go_simp; try rfl
              rotate_left
              · simp only [Act.put]; exact rfl
              refine Calm.one (i := 12) (l' := #[true, true, true, true, true, true, true, true, true, true, true, true, true, false, false, false]) (by kernel_rfl) rfl rfl rfl fun K hK => ?_
              go_simp
              have al := below_alloc u3 (.cells #[.bool false, .slice none 0 0] 25)
              have HF' := hide (And.intro (HF.out.1.trans ((al).mono HF.out.1.size)) (And.intro (HF.out.2.1.step (al)) (And.intro (HF.out.2.2.1.step (al)) (And.intro (HF.out.2.2.2.1.step (al)) (And.intro (HF.out.2.2.2.2.1.step (al)) (And.intro (HF.out.2.2.2.2.2.1.step (al)) (And.intro (HF.out.2.2.2.2.2.2.1.step (al)) (And.intro (HF.out.2.2.2.2.2.2.2.1.step (al)) (And.intro (HF.out.2.2.2.2.2.2.2.2.1.below (al)) (And.intro (HF.out.2.2.2.2.2.2.2.2.2.1.below (al)) (And.intro (HF.out.2.2.2.2.2.2.2.2.2.2.1.below (al)) (HF.out.2.2.2.2.2.2.2.2.2.2.2.below (al)))))))))))))
              have BXr := hide (Box.new u3 (.bool false) (.slice none 0 0))
              replace TV := hide (TV.out.below (al))
              replace TW := hide (TW.out.below (al))
              have LTqr := hide (BXq.out.lt)
              replace BXq := hide (BXq.out.step al)
              have LT1r := hide (HF.out.2.1.lt)
              have LT2r := hide (HF.out.2.2.1.lt)
              have LT3r := hide (HF.out.2.2.2.1.lt)
              have LT4r := hide (HF.out.2.2.2.2.1.lt)
              have LT5r := hide (HF.out.2.2.2.2.2.1.lt)
              have LT6r := hide (HF.out.2.2.2.2.2.2.1.lt)
              have LT7r := hide (HF.out.2.2.2.2.2.2.2.1.lt)
              have GEr := hide (HF.out.1.size)
              refine hK _ _ (fun _ => HF'.out) ?_
              clear hK K HF al
              have HF := hide HF'.out
              clear HF'
              generalize u3.alloc (.cells #[.bool false, .slice none 0 0] 25) = wzr at *
              generalize u3.heap.size = gr at *
              refine Calm.one (i := 13) (l' := #[true, true, true, true, true, true, true, true, true, true, true, true, true, true, false, false]) (by kernel_rfl) rfl rfl rfl fun K hK => ?_
              clear LTS
              have LTS := hide (And.intro (LT1q.out) (And.intro (LT2q.out) (And.intro (LT3q.out) (And.intro (LT4q.out) (And.intro (LT5q.out) (And.intro (LT6q.out) (And.intro (LT7q.out) (And.intro (LT1r.out) (And.intro (LT2r.out) (And.intro (LT3r.out) (And.intro (LT4r.out) (And.intro (LT5r.out) (And.intro (LT6r.out) (And.intro (LT7r.out) ((show gq ≠ gr by first | exact Nat.ne_of_lt LTqr.out | exact Nat.ne_of_gt LTrq.out))))))))))))))))
              have hc0 := BXq.out.cell0
              have hc1 := BXq.out.cell1
              have hf0 := BXq.out.free 0
              have hf1 := BXq.out.free 1
              go_simp
              have HF' := hide (And.intro (below_put HF.out.1 (show w.heap.size ≤ gq by have hx := LTS.out; omega) (.bool sv) (.slice mv nv cv)) (And.intro (HF.out.2.1.other (C := gq) (by have hx := LTS.out; omega) (.bool sv) (.slice mv nv cv)) (And.intro (HF.out.2.2.1.other (C := gq) (by have hx := LTS.out; omega) (.bool sv) (.slice mv nv cv)) (And.intro (HF.out.2.2.2.1.other (C := gq) (by have hx := LTS.out; omega) (.bool sv) (.slice mv nv cv)) (And.intro (HF.out.2.2.2.2.1.other (C := gq) (by have hx := LTS.out; omega) (.bool sv) (.slice mv nv cv)) (And.intro (HF.out.2.2.2.2.2.1.other (C := gq) (by have hx := LTS.out; omega) (.bool sv) (.slice mv nv cv)) (And.intro (HF.out.2.2.2.2.2.2.1.other (C := gq) (by have hx := LTS.out; omega) (.bool sv) (.slice mv nv cv)) (And.intro (HF.out.2.2.2.2.2.2.2.1.other (C := gq) (by have hx := LTS.out; omega) (.bool sv) (.slice mv nv cv)) (And.intro (HF.out.2.2.2.2.2.2.2.2.1.keep (BXq.out.keeps (by simp) (by simp) (.bool sv) (.slice mv nv cv))) (And.intro (HF.out.2.2.2.2.2.2.2.2.2.1.keep (BXq.out.keeps (by simp) (by simp) (.bool sv) (.slice mv nv cv))) (And.intro (HF.out.2.2.2.2.2.2.2.2.2.2.1.keep (BXq.out.keeps (by simp) (by simp) (.bool sv) (.slice mv nv cv))) (HF.out.2.2.2.2.2.2.2.2.2.2.2.keep (BXq.out.keeps (by simp) (by simp) (.bool sv) (.slice mv nv cv))))))))))))))
              replace TV := hide (TV.out.keep (BXq.out.keeps (by simp) (by simp) (.bool sv) (.slice mv nv cv)))
              replace TW := hide (TW.out.keep (BXq.out.keeps (by simp) (by simp) (.bool sv) (.slice mv nv cv)))
              replace BXr := hide (BXr.out.other (C := gq) (by have hx := LTS.out; omega) (.bool sv) (.slice mv nv cv))
              replace BXq := hide (BXq.out.put (.bool sv) (.slice mv nv cv))
              refine hK _ _ (fun _ => HF'.out) ?_
              clear hK K HF hc0 hf0 hc1 hf1
              have HF := hide HF'.out
              clear HF'
              generalize ((wzr.setCell ⟨gq, 0, none⟩ (.bool sv)).setCell ⟨gq, 1, none⟩ (.slice mv nv cv)) = ws1 at *
              refine Calm.one (i := 14) (l' := #[true, true, true, true, true, true, true, true, true, true, true, true, true, true, true, false]) (by kernel_rfl) rfl rfl rfl fun K hK => ?_
              have hc0 := BXr.out.cell0
              have hc1 := BXr.out.cell1
              have hf0 := BXr.out.free 0
              have hf1 := BXr.out.free 1
              go_simp
              have HF' := hide (And.intro (below_put HF.out.1 (show w.heap.size ≤ gr by have hx := LTS.out; omega) (.bool sw) (.slice mw nw cw)) (And.intro (HF.out.2.1.other (C := gr) (by have hx := LTS.out; omega) (.bool sw) (.slice mw nw cw)) (And.intro (HF.out.2.2.1.other (C := gr) (by have hx := LTS.out; omega) (.bool sw) (.slice mw nw cw)) (And.intro (HF.out.2.2.2.1.other (C := gr) (by have hx := LTS.out; omega) (.bool sw) (.slice mw nw cw)) (And.intro (HF.out.2.2.2.2.1.other (C := gr) (by have hx := LTS.out; omega) (.bool sw) (.slice mw nw cw)) (And.intro (HF.out.2.2.2.2.2.1.other (C := gr) (by have hx := LTS.out; omega) (.bool sw) (.slice mw nw cw)) (And.intro (HF.out.2.2.2.2.2.2.1.other (C := gr) (by have hx := LTS.out; omega) (.bool sw) (.slice mw nw cw)) (And.intro (HF.out.2.2.2.2.2.2.2.1.other (C := gr) (by have hx := LTS.out; omega) (.bool sw) (.slice mw nw cw)) (And.intro (HF.out.2.2.2.2.2.2.2.2.1.keep (BXr.out.keeps (by simp) (by simp) (.bool sw) (.slice mw nw cw))) (And.intro (HF.out.2.2.2.2.2.2.2.2.2.1.keep (BXr.out.keeps (by simp) (by simp) (.bool sw) (.slice mw nw cw))) (And.intro (HF.out.2.2.2.2.2.2.2.2.2.2.1.keep (BXr.out.keeps (by simp) (by simp) (.bool sw) (.slice mw nw cw))) (HF.out.2.2.2.2.2.2.2.2.2.2.2.keep (BXr.out.keeps (by simp) (by simp) (.bool sw) (.slice mw nw cw))))))))))))))
              replace TV := hide (TV.out.keep (BXr.out.keeps (by simp) (by simp) (.bool sw) (.slice mw nw cw)))
              replace TW := hide (TW.out.keep (BXr.out.keeps (by simp) (by simp) (.bool sw) (.slice mw nw cw)))
              replace BXq := hide (BXq.out.other (C := gr) (by have hx := LTS.out; omega) (.bool sw) (.slice mw nw cw))
              replace BXr := hide (BXr.out.put (.bool sw) (.slice mw nw cw))
              refine hK _ _ (fun _ => HF'.out) ?_
              clear hK K HF hc0 hf0 hc1 hf1
              have HF := hide HF'.out
              clear HF'
              generalize ((ws1.setCell ⟨gr, 0, none⟩ (.bool sw)).setCell ⟨gr, 1, none⟩ (.slice mw nw cw)) = ws2 at *
              refine Calm.take (i := 15) (v := ?_) (a' := ?_) (l' := #[true, true, true, true, true, true, true, true, true, true, true, true, true, true, true, true]) (d := some 14) rfl (by kernel_rfl) (by kernel_rfl) (by kernel_rfl) (by kernel_rfl) (fun _ _ _ h => h) HF.out rfl ?_ rfl rfl ?_ ?_
              rotate_left
              · intro w' hF; clear hF; go_simp; try rfl
              rotate_left
              · simp only [Act.put]; exact rfl
              refine Calm.done (by kernel_rfl) ?_
              go_wp2
              go_meet
              case rel => exact ⟨gq, sv, mv, nv, cv, rfl, (by have hx := LTS.out; omega), ⟨HF.out.1, HF.out.2.2.2.1, HF.out.2.2.2.2.1, HF.out.2.2.2.2.2.1, HF.out.2.2.2.2.2.2.1, HF.out.2.2.2.2.2.2.2.1, HF.out.2.2.2.2.2.2.2.2.2.2.1, HF.out.2.2.2.2.2.2.2.2.2.2.2⟩, BXq.out, TV.out⟩
            · go_simp
              have al := below_alloc wzq (.cells #[.bool false, .slice none 0 0] 25)
              have HF' := hide (And.intro (HF.out.1.trans ((al).mono HF.out.1.size)) (And.intro (HF.out.2.1.step (al)) (And.intro (HF.out.2.2.1.step (al)) (And.intro (HF.out.2.2.2.1.step (al)) (And.intro (HF.out.2.2.2.2.1.step (al)) (And.intro (HF.out.2.2.2.2.2.1.step (al)) (And.intro (HF.out.2.2.2.2.2.2.1.step (al)) (And.intro (HF.out.2.2.2.2.2.2.2.1.step (al)) (And.intro (HF.out.2.2.2.2.2.2.2.2.1.below (al)) (And.intro (HF.out.2.2.2.2.2.2.2.2.2.1.below (al)) (And.intro (HF.out.2.2.2.2.2.2.2.2.2.2.1.below (al)) (HF.out.2.2.2.2.2.2.2.2.2.2.2.below (al)))))))))))))
              have BXr := hide (Box.new wzq (.bool false) (.slice none 0 0))
              replace T2 := hide (T2.out.below (al))
              have LTqr := hide (BXq.out.lt)
              replace BXq := hide (BXq.out.step al)
              have LT1r := hide (HF.out.2.1.lt)
              have LT2r := hide (HF.out.2.2.1.lt)
              have LT3r := hide (HF.out.2.2.2.1.lt)
              have LT4r := hide (HF.out.2.2.2.2.1.lt)
              have LT5r := hide (HF.out.2.2.2.2.2.1.lt)
              have LT6r := hide (HF.out.2.2.2.2.2.2.1.lt)
              have LT7r := hide (HF.out.2.2.2.2.2.2.2.1.lt)
              have GEr := hide (HF.out.1.size)
              refine hK _ _ (fun _ => HF'.out) ?_
              clear hK K HF al
              have HF := hide HF'.out
              clear HF'
              generalize wzq.alloc (.cells #[.bool false, .slice none 0 0] 25) = wzr at *
              generalize wzq.heap.size = gr at *
              refine Calm.one (i := 6) (l' := #[true, true, true, true, true, true, true, false, false, false, false, true, true, false, false, false]) (by kernel_rfl) rfl rfl rfl fun K hK => ?_
              go_simp
              refine (idivmod_any _ _ (d - (u % (y / d)) * x) y _ T2.out HF.out.2.2.2.2.2.2.2.2.2.1 (SzI.len (SzI.sub SGG.out (SzI.mul SN.out SX.out)) (by have := HK.out; omega)) (SzI.len SY.out (by have := HK.out; omega)) HY.out).mono ?_
              rintro e u3 ⟨a, b, rfl, na, nb, hb⟩
              obtain ⟨sv, mv, nv, cv, rfl, na⟩ := na.cells
              obtain ⟨sw, mw, nw, cw, rfl, nb⟩ := nb.cells
              clear T2
              replace BXq := hide (BXq.out.step hb)
              replace BXr := hide (BXr.out.step hb)
              have HF' := hide (And.intro (HF.out.1.trans ((hb).mono HF.out.1.size)) (And.intro (HF.out.2.1.step (hb)) (And.intro (HF.out.2.2.1.step (hb)) (And.intro (HF.out.2.2.2.1.step (hb)) (And.intro (HF.out.2.2.2.2.1.step (hb)) (And.intro (HF.out.2.2.2.2.2.1.step (hb)) (And.intro (HF.out.2.2.2.2.2.2.1.step (hb)) (And.intro (HF.out.2.2.2.2.2.2.2.1.step (hb)) (And.intro (HF.out.2.2.2.2.2.2.2.2.1.below (hb)) (And.intro (HF.out.2.2.2.2.2.2.2.2.2.1.below (hb)) (And.intro (HF.out.2.2.2.2.2.2.2.2.2.2.1.below (hb)) (HF.out.2.2.2.2.2.2.2.2.2.2.2.below (hb)))))))))))))
              have TV := hide (na)
              have TW := hide (nb)
              refine hK _ _ (fun _ => HF'.out) ?_
              clear hK K HF hb na nb
              have HF := hide HF'.out
              clear HF'
              refine Calm.take (i := 7) (v := ?_) (a' := ?_) (l' := #[true, true, true, true, true, true, true, true, false, false, false, true, true, false, false, false]) (d := some 44) rfl (by kernel_rfl) (by kernel_rfl) (by kernel_rfl) (by kernel_rfl) (fun _ _ _ h => h) HF.out rfl ?_ rfl rfl ?_ ?_
              rotate_left
              · intro w' hF; clear hF; go_simp; try rfl
              rotate_left
              · simp only [Act.put]; exact rfl
              refine Calm.take (i := 8) (v := ?_) (a' := ?_) (l' := #[true, true, true, true, true, true, true, true, true, false, false, true, true, false, false, false]) (d := some 52) rfl (by kernel_rfl) (by kernel_rfl) (by kernel_rfl) (by kernel_rfl) (fun _ _ _ h => h) HF.out rfl ?_ rfl rfl ?_ ?_
              rotate_left
              · intro w' hF; clear hF; go_simp; try rfl
              rotate_left
              · simp only [Act.put]; exact rfl
              refine Calm.take (i := 9) (v := ?_) (a' := ?_) (l' := #[true, true, true, true, true, true, true, true, true, true, false, true, true, false, false, false]) (d := some 53) rfl (by kernel_rfl) (by kernel_rfl) (by kernel_rfl) (by kernel_rfl) (fun _ _ _ h => h) HF.out rfl ?_ rfl rfl ?_ ?_
              rotate_left
              · intro w' hF; clear hF; go_simp; try rfl
              rotate_left
              · simp only [Act.put]; exact rfl
              refine Calm.take (i := 10) (v := ?_) (a' := ?_) (l' := #[true, true, true, true, true, true, true, true, true, true, true, true, true, false, false, false]) (d := some 54) rfl (by kernel_rfl) (by kernel_rfl) (by kernel_rfl) (by kernel_rfl) (fun _ _ _ h => h) HF.out rfl ?_ rfl rfl ?_ ?_
              rotate_left
              · intro w' hF; clear hF; go_simp; try rfl
              rotate_left
              · simp only [Act.put]; exact rfl
              refine Calm.one (i := 13) (l' := #[true, true, true, true, true, true, true, true, true, true, true, true, true, true, false, false]) (by kernel_rfl) rfl rfl rfl fun K hK => ?_
              clear LTS
              have LTS := hide (And.intro (LT1q.out) (And.intro (LT2q.out) (And.intro (LT3q.out) (And.intro (LT4q.out) (And.intro (LT5q.out) (And.intro (LT6q.out) (And.intro (LT7q.out) (And.intro (LT1r.out) (And.intro (LT2r.out) (And.intro (LT3r.out) (And.intro (LT4r.out) (And.intro (LT5r.out) (And.intro (LT6r.out) (And.intro (LT7r.out) ((show gq ≠ gr by first | exact Nat.ne_of_lt LTqr.out | exact Nat.ne_of_gt LTrq.out))))))))))))))))
              have hc0 := BXq.out.cell0
              have hc1 := BXq.out.cell1
              have hf0 := BXq.out.free 0
              have hf1 := BXq.out.free 1
              go_simp
              have HF' := hide (And.intro (below_put HF.out.1 (show w.heap.size ≤ gq by have hx := LTS.out; omega) (.bool sv) (.slice mv nv cv)) (And.intro (HF.out.2.1.other (C := gq) (by have hx := LTS.out; omega) (.bool sv) (.slice mv nv cv)) (And.intro (HF.out.2.2.1.other (C := gq) (by have hx := LTS.out; omega) (.bool sv) (.slice mv nv cv)) (And.intro (HF.out.2.2.2.1.other (C := gq) (by have hx := LTS.out; omega) (.bool sv) (.slice mv nv cv)) (And.intro (HF.out.2.2.2.2.1.other (C := gq) (by have hx := LTS.out; omega) (.bool sv) (.slice mv nv cv)) (And.intro (HF.out.2.2.2.2.2.1.other (C := gq) (by have hx := LTS.out; omega) (.bool sv) (.slice mv nv cv)) (And.intro (HF.out.2.2.2.2.2.2.1.other (C := gq) (by have hx := LTS.out; omega) (.bool sv) (.slice mv nv cv)) (And.intro (HF.out.2.2.2.2.2.2.2.1.other (C := gq) (by have hx := LTS.out; omega) (.bool sv) (.slice mv nv cv)) (And.intro (HF.out.2.2.2.2.2.2.2.2.1.keep (BXq.out.keeps (by simp) (by simp) (.bool sv) (.slice mv nv cv))) (And.intro (HF.out.2.2.2.2.2.2.2.2.2.1.keep (BXq.out.keeps (by simp) (by simp) (.bool sv) (.slice mv nv cv))) (And.intro (HF.out.2.2.2.2.2.2.2.2.2.2.1.keep (BXq.out.keeps (by simp) (by simp) (.bool sv) (.slice mv nv cv))) (HF.out.2.2.2.2.2.2.2.2.2.2.2.keep (BXq.out.keeps (by simp) (by simp) (.bool sv) (.slice mv nv cv))))))))))))))
              replace TV := hide (TV.out.keep (BXq.out.keeps (by simp) (by simp) (.bool sv) (.slice mv nv cv)))
              replace TW := hide (TW.out.keep (BXq.out.keeps (by simp) (by simp) (.bool sv) (.slice mv nv cv)))
              replace BXr := hide (BXr.out.other (C := gq) (by have hx := LTS.out; omega) (.bool sv) (.slice mv nv cv))
              replace BXq := hide (BXq.out.put (.bool sv) (.slice mv nv cv))
              refine hK _ _ (fun _ => HF'.out) ?_
              clear hK K HF hc0 hf0 hc1 hf1
              have HF := hide HF'.out
              clear HF'
              generalize ((u3.setCell ⟨gq, 0, none⟩ (.bool sv)).setCell ⟨gq, 1, none⟩ (.slice mv nv cv)) = ws1 at *
              refine Calm.one (i := 14) (l' := #[true, true, true, true, true, true, true, true, true, true, true, true, true, true, true, false]) (by kernel_rfl) rfl rfl rfl fun K hK => ?_
              have hc0 := BXr.out.cell0
              have hc1 := BXr.out.cell1
              have hf0 := BXr.out.free 0
              have hf1 := BXr.out.free 1
              go_simp
              have HF' := hide (And.intro (below_put HF.out.1 (show w.heap.size ≤ gr by have hx := LTS.out; omega) (.bool sw) (.slice mw nw cw)) (And.intro (HF.out.2.1.other (C := gr) (by have hx := LTS.out; omega) (.bool sw) (.slice mw nw cw)) (And.intro (HF.out.2.2.1.other (C := gr) (by have hx := LTS.out; omega) (.bool sw) (.slice mw nw cw)) (And.intro (HF.out.2.2.2.1.other (C := gr) (by have hx := LTS.out; omega) (.bool sw) (.slice mw nw cw)) (And.intro (HF.out.2.2.2.2.1.other (C := gr) (by have hx := LTS.out; omega) (.bool sw) (.slice mw nw cw)) (And.intro (HF.out.2.2.2.2.2.1.other (C := gr) (by have hx := LTS.out; omega) (.bool sw) (.slice mw nw cw)) (And.intro (HF.out.2.2.2.2.2.2.1.other (C := gr) (by have hx := LTS.out; omega) (.bool sw) (.slice mw nw cw)) (And.intro (HF.out.2.2.2.2.2.2.2.1.other (C := gr) (by have hx := LTS.out; omega) (.bool sw) (.slice mw nw cw)) (And.intro (HF.out.2.2.2.2.2.2.2.2.1.keep (BXr.out.keeps (by simp) (by simp) (.bool sw) (.slice mw nw cw))) (And.intro (HF.out.2.2.2.2.2.2.2.2.2.1.keep (BXr.out.keeps (by simp) (by simp) (.bool sw) (.slice mw nw cw))) (And.intro (HF.out.2.2.2.2.2.2.2.2.2.2.1.keep (BXr.out.keeps (by simp) (by simp) (.bool sw) (.slice mw nw cw))) (HF.out.2.2.2.2.2.2.2.2.2.2.2.keep (BXr.out.keeps (by simp) (by simp) (.bool sw) (.slice mw nw cw))))))))))))))
              replace TV := hide (TV.out.keep (BXr.out.keeps (by simp) (by simp) (.bool sw) (.slice mw nw cw)))
              replace TW := hide (TW.out.keep (BXr.out.keeps (by simp) (by simp) (.bool sw) (.slice mw nw cw)))
              replace BXq := hide (BXq.out.other (C := gr) (by have hx := LTS.out; omega) (.bool sw) (.slice mw nw cw))
              replace BXr := hide (BXr.out.put (.bool sw) (.slice mw nw cw))
              refine hK _ _ (fun _ => HF'.out) ?_
              clear hK K HF hc0 hf0 hc1 hf1
              have HF := hide HF'.out
              clear HF'
              generalize ((ws1.setCell ⟨gr, 0, none⟩ (.bool sw)).setCell ⟨gr, 1, none⟩ (.slice mw nw cw)) = ws2 at *
              refine Calm.take (i := 15) (v := ?_) (a' := ?_) (l' := #[true, true, true, true, true, true, true, true, true, true, true, true, true, true, true, true]) (d := some 14) rfl (by kernel_rfl) (by kernel_rfl) (by kernel_rfl) (by kernel_rfl) (fun _ _ _ h => h) HF.out rfl ?_ rfl rfl ?_ ?_
              rotate_left
              · intro w' hF; clear hF; go_simp; try rfl
              rotate_left
              · simp only [Act.put]; exact rfl
              refine Calm.done (by kernel_rfl) ?_
              go_wp2
              go_meet
              case rel => exact ⟨gq, sv, mv, nv, cv, rfl, (by have hx := LTS.out; omega), ⟨HF.out.1, HF.out.2.2.2.1, HF.out.2.2.2.2.1, HF.out.2.2.2.2.2.1, HF.out.2.2.2.2.2.2.1, HF.out.2.2.2.2.2.2.2.1, HF.out.2.2.2.2.2.2.2.2.2.2.1, HF.out.2.2.2.2.2.2.2.2.2.2.2⟩, BXq.out, TV.out⟩
          · go_simp
            have al := below_alloc u2 (.cells #[.bool false, .slice none 0 0] 25)
            have HF' := hide (And.intro (HF.out.1.trans ((al).mono HF.out.1.size)) (And.intro (HF.out.2.1.step (al)) (And.intro (HF.out.2.2.1.step (al)) (And.intro (HF.out.2.2.2.1.step (al)) (And.intro (HF.out.2.2.2.2.1.step (al)) (And.intro (HF.out.2.2.2.2.2.1.step (al)) (And.intro (HF.out.2.2.2.2.2.2.1.step (al)) (And.intro (HF.out.2.2.2.2.2.2.2.1.step (al)) (And.intro (HF.out.2.2.2.2.2.2.2.2.1.below (al)) (And.intro (HF.out.2.2.2.2.2.2.2.2.2.1.below (al)) (And.intro (HF.out.2.2.2.2.2.2.2.2.2.2.1.below (al)) (HF.out.2.2.2.2.2.2.2.2.2.2.2.below (al)))))))))))))
            have BXr := hide (Box.new u2 (.bool false) (.slice none 0 0))
            replace T2 := hide (T2.out.below (al))
            have LT1r := hide (HF.out.2.1.lt)
            have LT2r := hide (HF.out.2.2.1.lt)
            have LT3r := hide (HF.out.2.2.2.1.lt)
            have LT4r := hide (HF.out.2.2.2.2.1.lt)
            have LT5r := hide (HF.out.2.2.2.2.2.1.lt)
            have LT6r := hide (HF.out.2.2.2.2.2.2.1.lt)
            have LT7r := hide (HF.out.2.2.2.2.2.2.2.1.lt)
            have GEr := hide (HF.out.1.size)
            refine hK _ _ (fun _ => HF'.out) ?_
            clear hK K HF al
            have HF := hide HF'.out
            clear HF'
            generalize u2.alloc (.cells #[.bool false, .slice none 0 0] 25) = wzr at *
            generalize u2.heap.size = gr at *
            refine Calm.two (i := 6) (j := 11) (l := #[true, true, true, true, true, true, true, false, false, false, false, false, true, false, false, false]) (l' := #[true, true, true, true, true, true, false, false, false, false, false, true, true, false, false, false]) (by kernel_rfl) rfl rfl rfl rfl rfl rfl (fun K hK => ?_) (fun K hK => ?_)
            · go_simp
              refine (idivmod_any _ _ (d - (u % (y / d)) * x) y _ T2.out HF.out.2.2.2.2.2.2.2.2.2.1 (SzI.len (SzI.sub SGG.out (SzI.mul SN.out SX.out)) (by have := HK.out; omega)) (SzI.len SY.out (by have := HK.out; omega)) HY.out).mono ?_
              rintro e u3 ⟨a, b, rfl, na, nb, hb⟩
              obtain ⟨sv, mv, nv, cv, rfl, na⟩ := na.cells
              obtain ⟨sw, mw, nw, cw, rfl, nb⟩ := nb.cells
              clear T2
              replace BXr := hide (BXr.out.step hb)
              have HF' := hide (And.intro (HF.out.1.trans ((hb).mono HF.out.1.size)) (And.intro (HF.out.2.1.step (hb)) (And.intro (HF.out.2.2.1.step (hb)) (And.intro (HF.out.2.2.2.1.step (hb)) (And.intro (HF.out.2.2.2.2.1.step (hb)) (And.intro (HF.out.2.2.2.2.2.1.step (hb)) (And.intro (HF.out.2.2.2.2.2.2.1.step (hb)) (And.intro (HF.out.2.2.2.2.2.2.2.1.step (hb)) (And.intro (HF.out.2.2.2.2.2.2.2.2.1.below (hb)) (And.intro (HF.out.2.2.2.2.2.2.2.2.2.1.below (hb)) (And.intro (HF.out.2.2.2.2.2.2.2.2.2.2.1.below (hb)) (HF.out.2.2.2.2.2.2.2.2.2.2.2.below (hb)))))))))))))
              have TV := hide (na)
              have TW := hide (nb)
              refine hK _ _ (fun _ => HF'.out) ?_
              clear hK K HF hb na nb
              have HF := hide HF'.out
              clear HF'
              refine Calm.take (i := 7) (v := ?_) (a' := ?_) (l' := #[true, true, true, true, true, true, true, true, false, false, false, false, true, false, false, false]) (d := some 44) rfl (by kernel_rfl) (by kernel_rfl) (by kernel_rfl) (by kernel_rfl) (fun _ _ _ h => h) HF.out rfl ?_ rfl rfl ?_ ?_
              rotate_left
              · intro w' hF; clear hF; go_simp; try rfl
              rotate_left
              · simp only [Act.put]; exact rfl
              refine Calm.take (i := 8) (v := ?_) (a' := ?_) (l' := #[true, true, true, true, true, true, true, true, true, false, false, false, true, false, false, false]) (d := some 52) rfl (by kernel_rfl) (by kernel_rfl) (by kernel_rfl) (by kernel_rfl) (fun _ _ _ h => h) HF.out rfl ?_ rfl rfl ?_ ?_
              rotate_left
              · intro w' hF; clear hF; go_simp; try rfl
              rotate_left
              · simp only [Act.put]; exact rfl
              refine Calm.take (i := 9) (v := ?_) (a' := ?_) (l' := #[true, true, true, true, true, true, true, true, true, true, false, false, true, false, false, false]) (d := some 53) rfl (by kernel_rfl) (by kernel_rfl) (by kernel_rfl) (by kernel_rfl) (fun _ _ _ h => h) HF.out rfl ?_ rfl rfl ?_ ?_
              rotate_left
              · intro w' hF; clear hF; go_simp; try rfl
              rotate_left
              · simp only [Act.put]; exact rfl
              refine Calm.take (i := 10) (v := ?_) (a' := ?_) (l' := #[true, true, true, true, true, true, true, true, true, true, true, false, true, false, false, false]) (d := some 54) rfl (by kernel_rfl) (by kernel_rfl) (by kernel_rfl) (by kernel_rfl) (fun _ _ _ h => h) HF.out rfl ?_ rfl rfl ?_ ?_
              rotate_left
              · intro w' hF; clear hF; go_simp; try rfl
              rotate_left
              · simp only [Act.put]; exact rfl
              refine Calm.one (i := 11) (l' := #[true, true, true, true, true, true, true, true, true, true, true, true, true, false, false, false]) (by kernel_rfl) rfl rfl rfl fun K hK => ?_
              go_simp
              have al := below_alloc u3 (.cells #[.bool false, .slice none 0 0] 25)
              have HF' := hide (And.intro (HF.out.1.trans ((al).mono HF.out.1.size)) (And.intro (HF.out.2.1.step (al)) (And.intro (HF.out.2.2.1.step (al)) (And.intro (HF.out.2.2.2.1.step (al)) (And.intro (HF.out.2.2.2.2.1.step (al)) (And.intro (HF.out.2.2.2.2.2.1.step (al)) (And.intro (HF.out.2.2.2.2.2.2.1.step (al)) (And.intro (HF.out.2.2.2.2.2.2.2.1.step (al)) (And.intro (HF.out.2.2.2.2.2.2.2.2.1.below (al)) (And.intro (HF.out.2.2.2.2.2.2.2.2.2.1.below (al)) (And.intro (HF.out.2.2.2.2.2.2.2.2.2.2.1.below (al)) (HF.out.2.2.2.2.2.2.2.2.2.2.2.below (al)))))))))))))
              have BXq := hide (Box.new u3 (.bool false) (.slice none 0 0))
              replace TV := hide (TV.out.below (al))
              replace TW := hide (TW.out.below (al))
              have LTrq := hide (BXr.out.lt)
              replace BXr := hide (BXr.out.step al)
              have LT1q := hide (HF.out.2.1.lt)
              have LT2q := hide (HF.out.2.2.1.lt)
              have LT3q := hide (HF.out.2.2.2.1.lt)
              have LT4q := hide (HF.out.2.2.2.2.1.lt)
              have LT5q := hide (HF.out.2.2.2.2.2.1.lt)
              have LT6q := hide (HF.out.2.2.2.2.2.2.1.lt)
              have LT7q := hide (HF.out.2.2.2.2.2.2.2.1.lt)
              have GEq := hide (HF.out.1.size)
              refine hK _ _ (fun _ => HF'.out) ?_
              clear hK K HF al
              have HF := hide HF'.out
              clear HF'
              generalize u3.alloc (.cells #[.bool false, .slice none 0 0] 25) = wzq at *
              generalize u3.heap.size = gq at *
              refine Calm.one (i := 13) (l' := #[true, true, true, true, true, true, true, true, true, true, true, true, true, true, false, false]) (by kernel_rfl) rfl rfl rfl fun K hK => ?_
              clear LTS
              have LTS := hide (And.intro (LT1q.out) (And.intro (LT2q.out) (And.intro (LT3q.out) (And.intro (LT4q.out) (And.intro (LT5q.out) (And.intro (LT6q.out) (And.intro (LT7q.out) (And.intro (LT1r.out) (And.intro (LT2r.out) (And.intro (LT3r.out) (And.intro (LT4r.out) (And.intro (LT5r.out) (And.intro (LT6r.out) (And.intro (LT7r.out) ((show gq ≠ gr by first | exact Nat.ne_of_lt LTqr.out | exact Nat.ne_of_gt LTrq.out))))))))))))))))
              have hc0 := BXq.out.cell0
              have hc1 := BXq.out.cell1
              have hf0 := BXq.out.free 0
              have hf1 := BXq.out.free 1
              go_simp
              have HF' := hide (And.intro (below_put HF.out.1 (show w.heap.size ≤ gq by have hx := LTS.out; omega) (.bool sv) (.slice mv nv cv)) (And.intro (HF.out.2.1.other (C := gq) (by have hx := LTS.out; omega) (.bool sv) (.slice mv nv cv)) (And.intro (HF.out.2.2.1.other (C := gq) (by have hx := LTS.out; omega) (.bool sv) (.slice mv nv cv)) (And.intro (HF.out.2.2.2.1.other (C := gq) (by have hx := LTS.out; omega) (.bool sv) (.slice mv nv cv)) (And.intro (HF.out.2.2.2.2.1.other (C := gq) (by have hx := LTS.out; omega) (.bool sv) (.slice mv nv cv)) (And.intro (HF.out.2.2.2.2.2.1.other (C := gq) (by have hx := LTS.out; omega) (.bool sv) (.slice mv nv cv)) (And.intro (HF.out.2.2.2.2.2.2.1.other (C := gq) (by have hx := LTS.out; omega) (.bool sv) (.slice mv nv cv)) (And.intro (HF.out.2.2.2.2.2.2.2.1.other (C := gq) (by have hx := LTS.out; omega) (.bool sv) (.slice mv nv cv)) (And.intro (HF.out.2.2.2.2.2.2.2.2.1.keep (BXq.out.keeps (by simp) (by simp) (.bool sv) (.slice mv nv cv))) (And.intro (HF.out.2.2.2.2.2.2.2.2.2.1.keep (BXq.out.keeps (by simp) (by simp) (.bool sv) (.slice mv nv cv))) (And.intro (HF.out.2.2.2.2.2.2.2.2.2.2.1.keep (BXq.out.keeps (by simp) (by simp) (.bool sv) (.slice mv nv cv))) (HF.out.2.2.2.2.2.2.2.2.2.2.2.keep (BXq.out.keeps (by simp) (by simp) (.bool sv) (.slice mv nv cv))))))))))))))
              replace TV := hide (TV.out.keep (BXq.out.keeps (by simp) (by simp) (.bool sv) (.slice mv nv cv)))
              replace TW := hide (TW.out.keep (BXq.out.keeps (by simp) (by simp) (.bool sv) (.slice mv nv cv)))
              replace BXr := hide (BXr.out.other (C := gq) (by have hx := LTS.out; omega) (.bool sv) (.slice mv nv cv))
              replace BXq := hide (BXq.out.put (.bool sv) (.slice mv nv cv))
              refine hK _ _ (fun _ => HF'.out) ?_
              clear hK K HF hc0 hf0 hc1 hf1
              have HF := hide HF'.out
              clear HF'
              generalize ((wzq.setCell ⟨gq, 0, none⟩ (.bool sv)).setCell ⟨gq, 1, none⟩ (.slice mv nv cv)) = ws1 at *
              refine Calm.one (i := 14) (l' := #[true, true, true, true, true, true, true, true, true, true, true, true, true, true, true, false]) (by kernel_rfl) rfl rfl rfl fun K hK => ?_
              have hc0 := BXr.out.cell0
              have hc1 := BXr.out.cell1
              have hf0 := BXr.out.free 0
              have hf1 := BXr.out.free 1
              go_simp
              have HF' := hide (And.intro (below_put HF.out.1 (show w.heap.size ≤ gr by have hx := LTS.out; omega) (.bool sw) (.slice mw nw cw)) (And.intro (HF.out.2.1.other (C := gr) (by have hx := LTS.out; omega) (.bool sw) (.slice mw nw cw)) (And.intro (HF.out.2.2.1.other (C := gr) (by have hx := LTS.out; omega) (.bool sw) (.slice mw nw cw)) (And.intro (HF.out.2.2.2.1.other (C := gr) (by have hx := LTS.out; omega) (.bool sw) (.slice mw nw cw)) (And.intro (HF.out.2.2.2.2.1.other (C := gr) (by have hx := LTS.out; omega) (.bool sw) (.slice mw nw cw)) (And.intro (HF.out.2.2.2.2.2.1.other (C := gr) (by have hx := LTS.out; omega) (.bool sw) (.slice mw nw cw)) (And.intro (HF.out.2.2.2.2.2.2.1.other (C := gr) (by have hx := LTS.out; omega) (.bool sw) (.slice mw nw cw)) (And.intro (HF.out.2.2.2.2.2.2.2.1.other (C := gr) (by have hx := LTS.out; omega) (.bool sw) (.slice mw nw cw)) (And.intro (HF.out.2.2.2.2.2.2.2.2.1.keep (BXr.out.keeps (by simp) (by simp) (.bool sw) (.slice mw nw cw))) (And.intro (HF.out.2.2.2.2.2.2.2.2.2.1.keep (BXr.out.keeps (by simp) (by simp) (.bool sw) (.slice mw nw cw))) (And.intro (HF.out.2.2.2.2.2.2.2.2.2.2.1.keep (BXr.out.keeps (by simp) (by simp) (.bool sw) (.slice mw nw cw))) (HF.out.2.2.2.2.2.2.2.2.2.2.2.keep (BXr.out.keeps (by simp) (by simp) (.bool sw) (.slice mw nw cw))))))))))))))
              replace TV := hide (TV.out.keep (BXr.out.keeps (by simp) (by simp) (.bool sw) (.slice mw nw cw)))
              replace TW := hide (TW.out.keep (BXr.out.keeps (by simp) (by simp) (.bool sw) (.slice mw nw cw)))
              replace BXq := hide (BXq.out.other (C := gr) (by have hx := LTS.out; omega) (.bool sw) (.slice mw nw cw))
              replace BXr := hide (BXr.out.put (.bool sw) (.slice mw nw cw))
              refine hK _ _ (fun _ => HF'.out) ?_
              clear hK K HF hc0 hf0 hc1 hf1
              have HF := hide HF'.out
              clear HF'
              generalize ((ws1.setCell ⟨gr, 0, none⟩ (.bool sw)).setCell ⟨gr, 1, none⟩ (.slice mw nw cw)) = ws2 at *
              refine Calm.take (i := 15) (v := ?_) (a' := ?_) (l' := #[true, true, true, true, true, true, true, true, true, true, true, true, true, true, true, true]) (d := some 14) rfl (by kernel_rfl) (by kernel_rfl) (by kernel_rfl) (by kernel_rfl) (fun _ _ _ h => h) HF.out rfl ?_ rfl rfl ?_ ?_
              rotate_left
              · intro w' hF; clear hF; go_simp; try rfl
              rotate_left
              · simp only [Act.put]; exact rfl
              refine Calm.done (by kernel_rfl) ?_
              go_wp2
              go_meet
              case rel => exact ⟨gq, sv, mv, nv, cv, rfl, (by have hx := LTS.out; omega), ⟨HF.out.1, HF.out.2.2.2.1, HF.out.2.2.2.2.1, HF.out.2.2.2.2.2.1, HF.out.2.2.2.2.2.2.1, HF.out.2.2.2.2.2.2.2.1, HF.out.2.2.2.2.2.2.2.2.2.2.1, HF.out.2.2.2.2.2.2.2.2.2.2.2⟩, BXq.out, TV.out⟩
            · go_simp
              have al := below_alloc wzr (.cells #[.bool false, .slice none 0 0] 25)
              have HF' := hide (And.intro (HF.out.1.trans ((al).mono HF.out.1.size)) (And.intro (HF.out.2.1.step (al)) (And.intro (HF.out.2.2.1.step (al)) (And.intro (HF.out.2.2.2.1.step (al)) (And.intro (HF.out.2.2.2.2.1.step (al)) (And.intro (HF.out.2.2.2.2.2.1.step (al)) (And.intro (HF.out.2.2.2.2.2.2.1.step (al)) (And.intro (HF.out.2.2.2.2.2.2.2.1.step (al)) (And.intro (HF.out.2.2.2.2.2.2.2.2.1.below (al)) (And.intro (HF.out.2.2.2.2.2.2.2.2.2.1.below (al)) (And.intro (HF.out.2.2.2.2.2.2.2.2.2.2.1.below (al)) (HF.out.2.2.2.2.2.2.2.2.2.2.2.below (al)))))))))))))
              have BXq := hide (Box.new wzr (.bool false) (.slice none 0 0))
              replace T2 := hide (T2.out.below (al))
              have LTrq := hide (BXr.out.lt)
              replace BXr := hide (BXr.out.step al)
              have LT1q := hide (HF.out.2.1.lt)
              have LT2q := hide (HF.out.2.2.1.lt)
              have LT3q := hide (HF.out.2.2.2.1.lt)
              have LT4q := hide (HF.out.2.2.2.2.1.lt)
              have LT5q := hide (HF.out.2.2.2.2.2.1.lt)
              have LT6q := hide (HF.out.2.2.2.2.2.2.1.lt)
              have LT7q := hide (HF.out.2.2.2.2.2.2.2.1.lt)
              have GEq := hide (HF.out.1.size)
              refine hK _ _ (fun _ => HF'.out) ?_
              clear hK K HF al
              have HF := hide HF'.out
              clear HF'
              generalize wzr.alloc (.cells #[.bool false, .slice none 0 0] 25) = wzq at *
              generalize wzr.heap.size = gq at *
              refine Calm.one (i := 6) (l' := #[true, true, true, true, true, true, true, false, false, false, false, true, true, false, false, false]) (by kernel_rfl) rfl rfl rfl fun K hK => ?_
              go_simp
              refine (idivmod_any _ _ (d - (u % (y / d)) * x) y _ T2.out HF.out.2.2.2.2.2.2.2.2.2.1 (SzI.len (SzI.sub SGG.out (SzI.mul SN.out SX.out)) (by have := HK.out; omega)) (SzI.len SY.out (by have := HK.out; omega)) HY.out).mono ?_
              rintro e u3 ⟨a, b, rfl, na, nb, hb⟩
              obtain ⟨sv, mv, nv, cv, rfl, na⟩ := na.cells
              obtain ⟨sw, mw, nw, cw, rfl, nb⟩ := nb.cells
              clear T2
              replace BXr := hide (BXr.out.step hb)
              replace BXq := hide (BXq.out.step hb)
              have HF' := hide (And.intro (HF.out.1.trans ((hb).mono HF.out.1.size)) (And.intro (HF.out.2.1.step (hb)) (And.intro (HF.out.2.2.1.step (hb)) (And.intro (HF.out.2.2.2.1.step (hb)) (And.intro (HF.out.2.2.2.2.1.step (hb)) (And.intro (HF.out.2.2.2.2.2.1.step (hb)) (And.intro (HF.out.2.2.2.2.2.2.1.step (hb)) (And.intro (HF.out.2.2.2.2.2.2.2.1.step (hb)) (And.intro (HF.out.2.2.2.2.2.2.2.2.1.below (hb)) (And.intro (HF.out.2.2.2.2.2.2.2.2.2.1.below (hb)) (And.intro (HF.out.2.2.2.2.2.2.2.2.2.2.1.below (hb)) (HF.out.2.2.2.2.2.2.2.2.2.2.2.below (hb)))))))))))))
              have TV := hide (na)
              have TW := hide (nb)
              refine hK _ _ (fun _ => HF'.out) ?_
              clear hK K HF hb na nb
              have HF := hide HF'.out
              clear HF'
              refine Calm.take (i := 7) (v := ?_) (a' := ?_) (l' := #[true, true, true, true, true, true, true, true, false, false, false, true, true, false, false, false]) (d := some 44) rfl (by kernel_rfl) (by kernel_rfl) (by kernel_rfl) (by kernel_rfl) (fun _ _ _ h => h) HF.out rfl ?_ rfl rfl ?_ ?_
              rotate_left
              · intro w' hF; clear hF; go_simp; try rfl
              rotate_left
              · simp only [Act.put]; exact rfl
              refine Calm.take (i := 8) (v := ?_) (a' := ?_) (l' := #[true, true, true, true, true, true, true, true, true, false, false, true, true, false, false, false]) (d := some 52) rfl (by kernel_rfl) (by kernel_rfl) (by kernel_rfl) (by kernel_rfl) (fun _ _ _ h => h) HF.out rfl ?_ rfl rfl ?_ ?_
              rotate_left
              · intro w' hF; clear hF; go_simp; try rfl
              rotate_left
              · simp only [Act.put]; exact rfl
              refine Calm.take (i := 9) (v := ?_) (a' := ?_) (l' := #[true, true, true, true, true, true, true, true, true, true, false, true, true, false, false, false]) (d := some 53) rfl (by kernel_rfl) (by kernel_rfl) (by kernel_rfl) (by kernel_rfl) (fun _ _ _ h => h) HF.out rfl ?_ rfl rfl ?_ ?_
              rotate_left
              · intro w' hF; clear hF; go_simp; try rfl
              rotate_left
              · simp only [Act.put]; exact rfl
              refine Calm.take (i := 10) (v := ?_) (a' := ?_) (l' := #[true, true, true, true, true, true, true, true, true, true, true, true, true, false, false, false]) (d := some 54) rfl (by kernel_rfl) (by kernel_rfl) (by kernel_rfl) (by kernel_rfl) (fun _ _ _ h => h) HF.out rfl ?_ rfl rfl ?_ ?_
              rotate_left
              · intro w' hF; clear hF; go_simp; try rfl
              rotate_left
              · simp only [Act.put]; exact rfl
              refine Calm.one (i := 13) (l' := #[true, true, true, true, true, true, true, true, true, true, true, true, true, true, false, false]) (by kernel_rfl) rfl rfl rfl fun K hK => ?_
              clear LTS
              have LTS := hide (And.intro (LT1q.out) (And.intro (LT2q.out) (And.intro (LT3q.out) (And.intro (LT4q.out) (And.intro (LT5q.out) (And.intro (LT6q.out) (And.intro (LT7q.out) (And.intro (LT1r.out) (And.intro (LT2r.out) (And.intro (LT3r.out) (And.intro (LT4r.out) (And.intro (LT5r.out) (And.intro (LT6r.out) (And.intro (LT7r.out) ((show gq ≠ gr by first | exact Nat.ne_of_lt LTqr.out | exact Nat.ne_of_gt LTrq.out))))))))))))))))
              have hc0 := BXq.out.cell0
              have hc1 := BXq.out.cell1
              have hf0 := BXq.out.free 0
              have hf1 := BXq.out.free 1
              go_simp
              have HF' := hide (And.intro (below_put HF.out.1 (show w.heap.size ≤ gq by have hx := LTS.out; omega) (.bool sv) (.slice mv nv cv)) (And.intro (HF.out.2.1.other (C := gq) (by have hx := LTS.out; omega) (.bool sv) (.slice mv nv cv)) (And.intro (HF.out.2.2.1.other (C := gq) (by have hx := LTS.out; omega) (.bool sv) (.slice mv nv cv)) (And.intro (HF.out.2.2.2.1.other (C := gq) (by have hx := LTS.out; omega) (.bool sv) (.slice mv nv cv)) (And.intro (HF.out.2.2.2.2.1.other (C := gq) (by have hx := LTS.out; omega) (.bool sv) (.slice mv nv cv)) (And.intro (HF.out.2.2.2.2.2.1.other (C := gq) (by have hx := LTS.out; omega) (.bool sv) (.slice mv nv cv)) (And.intro (HF.out.2.2.2.2.2.2.1.other (C := gq) (by have hx := LTS.out; omega) (.bool sv) (.slice mv nv cv)) (And.intro (HF.out.2.2.2.2.2.2.2.1.other (C := gq) (by have hx := LTS.out; omega) (.bool sv) (.slice mv nv cv)) (And.intro (HF.out.2.2.2.2.2.2.2.2.1.keep (BXq.out.keeps (by simp) (by simp) (.bool sv) (.slice mv nv cv))) (And.intro (HF.out.2.2.2.2.2.2.2.2.2.1.keep (BXq.out.keeps (by simp) (by simp) (.bool sv) (.slice mv nv cv))) (And.intro (HF.out.2.2.2.2.2.2.2.2.2.2.1.keep (BXq.out.keeps (by simp) (by simp) (.bool sv) (.slice mv nv cv))) (HF.out.2.2.2.2.2.2.2.2.2.2.2.keep (BXq.out.keeps (by simp) (by simp) (.bool sv) (.slice mv nv cv))))))))))))))
              replace TV := hide (TV.out.keep (BXq.out.keeps (by simp) (by simp) (.bool sv) (.slice mv nv cv)))
              replace TW := hide (TW.out.keep (BXq.out.keeps (by simp) (by simp) (.bool sv) (.slice mv nv cv)))
              replace BXr := hide (BXr.out.other (C := gq) (by have hx := LTS.out; omega) (.bool sv) (.slice mv nv cv))
              replace BXq := hide (BXq.out.put (.bool sv) (.slice mv nv cv))
              refine hK _ _ (fun _ => HF'.out) ?_
              clear hK K HF hc0 hf0 hc1 hf1
              have HF := hide HF'.out
              clear HF'
              generalize ((u3.setCell ⟨gq, 0, none⟩ (.bool sv)).setCell ⟨gq, 1, none⟩ (.slice mv nv cv)) = ws1 at *
              refine Calm.one (i := 14) (l' := #[true, true, true, true, true, true, true, true, true, true, true, true, true, true, true, false]) (by kernel_rfl) rfl rfl rfl fun K hK => ?_
              have hc0 := BXr.out.cell0
              have hc1 := BXr.out.cell1
              have hf0 := BXr.out.free 0
              have hf1 := BXr.out.free 1
              go_simp
              have HF' := hide (And.intro (below_put HF.out.1 (show w.heap.size ≤ gr by have hx := LTS.out; omega) (.bool sw) (.slice mw nw cw)) (And.intro (HF.out.2.1.other (C := gr) (by have hx := LTS.out; omega) (.bool sw) (.slice mw nw cw)) (And.intro (HF.out.2.2.1.other (C := gr) (by have hx := LTS.out; omega) (.bool sw) (.slice mw nw cw)) (And.intro (HF.out.2.2.2.1.other (C := gr) (by have hx := LTS.out; omega) (.bool sw) (.slice mw nw cw)) (And.intro (HF.out.2.2.2.2.1.other (C := gr) (by have hx := LTS.out; omega) (.bool sw) (.slice mw nw cw)) (And.intro (HF.out.2.2.2.2.2.1.other (C := gr) (by have hx := LTS.out; omega) (.bool sw) (.slice mw nw cw)) (And.intro (HF.out.2.2.2.2.2.2.1.other (C := gr) (by have hx := LTS.out; omega) (.bool sw) (.slice mw nw cw)) (And.intro (HF.out.2.2.2.2.2.2.2.1.other (C := gr) (by have hx := LTS.out; omega) (.bool sw) (.slice mw nw cw)) (And.intro (HF.out.2.2.2.2.2.2.2.2.1.keep (BXr.out.keeps (by simp) (by simp) (.bool sw) (.slice mw nw cw))) (And.intro (HF.out.2.2.2.2.2.2.2.2.2.1.keep (BXr.out.keeps (by simp) (by simp) (.bool sw) (.slice mw nw cw))) (And.intro (HF.out.2.2.2.2.2.2.2.2.2.2.1.keep (BXr.out.keeps (by simp) (by simp) (.bool sw) (.slice mw nw cw))) (HF.out.2.2.2.2.2.2.2.2.2.2.2.keep (BXr.out.keeps (by simp) (by simp) (.bool sw) (.slice mw nw cw))))))))))))))
              replace TV := hide (TV.out.keep (BXr.out.keeps (by simp) (by simp) (.bool sw) (.slice mw nw cw)))
              replace TW := hide (TW.out.keep (BXr.out.keeps (by simp) (by simp) (.bool sw) (.slice mw nw cw)))
              replace BXq := hide (BXq.out.other (C := gr) (by have hx := LTS.out; omega) (.bool sw) (.slice mw nw cw))
              replace BXr := hide (BXr.out.put (.bool sw) (.slice mw nw cw))
              refine hK _ _ (fun _ => HF'.out) ?_
              clear hK K HF hc0 hf0 hc1 hf1
              have HF := hide HF'.out
              clear HF'
              generalize ((ws1.setCell ⟨gr, 0, none⟩ (.bool sw)).setCell ⟨gr, 1, none⟩ (.slice mw nw cw)) = ws2 at *
              refine Calm.take (i := 15) (v := ?_) (a' := ?_) (l' := #[true, true, true, true, true, true, true, true, true, true, true, true, true, true, true, true]) (d := some 14) rfl (by kernel_rfl) (by kernel_rfl) (by kernel_rfl) (by kernel_rfl) (fun _ _ _ h => h) HF.out rfl ?_ rfl rfl ?_ ?_
              rotate_left
              · intro w' hF; clear hF; go_simp; try rfl
              rotate_left
              · simp only [Act.put]; exact rfl
              refine Calm.done (by kernel_rfl) ?_
              go_wp2
              go_meet
              case rel => exact ⟨gq, sv, mv, nv, cv, rfl, (by have hx := LTS.out; omega), ⟨HF.out.1, HF.out.2.2.2.1, HF.out.2.2.2.2.1, HF.out.2.2.2.2.2.1, HF.out.2.2.2.2.2.2.1, HF.out.2.2.2.2.2.2.2.1, HF.out.2.2.2.2.2.2.2.2.2.2.1, HF.out.2.2.2.2.2.2.2.2.2.2.2⟩, BXq.out, TV.out⟩
        · go_simp
          have al := below_alloc u1 (.cells #[.bool false, .slice none 0 0] 25)
          have HF' := hide (And.intro (HF.out.1.trans ((al).mono HF.out.1.size)) (And.intro (HF.out.2.1.step (al)) (And.intro (HF.out.2.2.1.step (al)) (And.intro (HF.out.2.2.2.1.step (al)) (And.intro (HF.out.2.2.2.2.1.step (al)) (And.intro (HF.out.2.2.2.2.2.1.step (al)) (And.intro (HF.out.2.2.2.2.2.2.1.step (al)) (And.intro (HF.out.2.2.2.2.2.2.2.1.step (al)) (And.intro (HF.out.2.2.2.2.2.2.2.2.1.below (al)) (And.intro (HF.out.2.2.2.2.2.2.2.2.2.1.below (al)) (And.intro (HF.out.2.2.2.2.2.2.2.2.2.2.1.below (al)) (HF.out.2.2.2.2.2.2.2.2.2.2.2.below (al)))))))))))))
          have BXq := hide (Box.new u1 (.bool false) (.slice none 0 0))
          replace T1 := hide (T1.out.below (al))
          have LT1q := hide (HF.out.2.1.lt)
          have LT2q := hide (HF.out.2.2.1.lt)
          have LT3q := hide (HF.out.2.2.2.1.lt)
          have LT4q := hide (HF.out.2.2.2.2.1.lt)
          have LT5q := hide (HF.out.2.2.2.2.2.1.lt)
          have LT6q := hide (HF.out.2.2.2.2.2.2.1.lt)
          have LT7q := hide (HF.out.2.2.2.2.2.2.2.1.lt)
          have GEq := hide (HF.out.1.size)
          refine hK _ _ (fun _ => HF'.out) ?_
          clear hK K HF al
          have HF := hide HF'.out
          clear HF'
          generalize u1.alloc (.cells #[.bool false, .slice none 0 0] 25) = wzq at *
          generalize u1.heap.size = gq at *
          refine Calm.two (i := 4) (j := 12) (l := #[true, true, true, true, true, true, false, false, false, false, false, true, false, false, false, false]) (l' := #[true, true, true, true, false, true, false, false, false, false, false, true, true, false, false, false]) (by kernel_rfl) rfl rfl rfl rfl rfl rfl (fun K hK => ?_) (fun K hK => ?_)
          · go_simp
            refine (isub_any _ _ d ((u % (y / d)) * x) _ HF.out.2.2.2.2.2.2.2.2.2.2.1 T1.out (SzI.len SGG.out (by have := HK.out; omega)) (SzI.len (SzI.mul SN.out SX.out) (by have := HK.out; omega))).mono ?_
            rintro e u2 ⟨v, rfl, n, hb⟩
            clear T1
            replace BXq := hide (BXq.out.step hb)
            have HF' := hide (And.intro (HF.out.1.trans ((hb).mono HF.out.1.size)) (And.intro (HF.out.2.1.step (hb)) (And.intro (HF.out.2.2.1.step (hb)) (And.intro (HF.out.2.2.2.1.step (hb)) (And.intro (HF.out.2.2.2.2.1.step (hb)) (And.intro (HF.out.2.2.2.2.2.1.step (hb)) (And.intro (HF.out.2.2.2.2.2.2.1.step (hb)) (And.intro (HF.out.2.2.2.2.2.2.2.1.step (hb)) (And.intro (HF.out.2.2.2.2.2.2.2.2.1.below (hb)) (And.intro (HF.out.2.2.2.2.2.2.2.2.2.1.below (hb)) (And.intro (HF.out.2.2.2.2.2.2.2.2.2.2.1.below (hb)) (HF.out.2.2.2.2.2.2.2.2.2.2.2.below (hb)))))))))))))
            have T2 := hide (n)
            refine hK _ _ (fun _ => HF'.out) ?_
            clear hK K HF hb n
            have HF := hide HF'.out
            clear HF'
            refine Calm.two (i := 6) (j := 12) (l := #[true, true, true, true, true, true, true, false, false, false, false, true, false, false, false, false]) (l' := #[true, true, true, true, true, true, false, false, false, false, false, true, true, false, false, false]) (by kernel_rfl) rfl rfl rfl rfl rfl rfl (fun K hK => ?_) (fun K hK => ?_)
            · go_simp
              refine (idivmod_any _ _ (d - (u % (y / d)) * x) y _ T2.out HF.out.2.2.2.2.2.2.2.2.2.1 (SzI.len (SzI.sub SGG.out (SzI.mul SN.out SX.out)) (by have := HK.out; omega)) (SzI.len SY.out (by have := HK.out; omega)) HY.out).mono ?_
              rintro e u3 ⟨a, b, rfl, na, nb, hb⟩
              obtain ⟨sv, mv, nv, cv, rfl, na⟩ := na.cells
              obtain ⟨sw, mw, nw, cw, rfl, nb⟩ := nb.cells
              clear T2
              replace BXq := hide (BXq.out.step hb)
              have HF' := hide (And.intro (HF.out.1.trans ((hb).mono HF.out.1.size)) (And.intro (HF.out.2.1.step (hb)) (And.intro (HF.out.2.2.1.step (hb)) (And.intro (HF.out.2.2.2.1.step (hb)) (And.intro (HF.out.2.2.2.2.1.step (hb)) (And.intro (HF.out.2.2.2.2.2.1.step (hb)) (And.intro (HF.out.2.2.2.2.2.2.1.step (hb)) (And.intro (HF.out.2.2.2.2.2.2.2.1.step (hb)) (And.intro (HF.out.2.2.2.2.2.2.2.2.1.below (hb)) (And.intro (HF.out.2.2.2.2.2.2.2.2.2.1.below (hb)) (And.intro (HF.out.2.2.2.2.2.2.2.2.2.2.1.below (hb)) (HF.out.2.2.2.2.2.2.2.2.2.2.2.below (hb)))))))))))))
              have TV := hide (na)
              have TW := hide (nb)
              refine hK _ _ (fun _ => HF'.out) ?_
              clear hK K HF hb na nb
              have HF := hide HF'.out
              clear HF'
              refine Calm.take (i := 7) (v := ?_) (a' := ?_) (l' := #[true, true, true, true, true, true, true, true, false, false, false, true, false, false, false, false]) (d := some 44) rfl (by kernel_rfl) (by kernel_rfl) (by kernel_rfl) (by kernel_rfl) (fun _ _ _ h => h) HF.out rfl ?_ rfl rfl ?_ ?_
              rotate_left
              · intro w' hF; clear hF; go_simp; try rfl
              rotate_left
              · simp only [Act.put]; exact rfl
              refine Calm.take (i := 8) (v := ?_) (a' := ?_) (l' := #[true, true, true, true, true, true, true, true, true, false, false, true, false, false, false, false]) (d := some 52) rfl (by kernel_rfl) (by kernel_rfl) (by kernel_rfl) (by kernel_rfl) (fun _ _ _ h => h) HF.out rfl ?_ rfl rfl ?_ ?_
              rotate_left
              · intro w' hF; clear hF; go_simp; try rfl
              rotate_left
              · simp only [Act.put]; exact rfl
              refine Calm.take (i := 9) (v := ?_) (a' := ?_) (l' := #[true, true, true, true, true, true, true, true, true, true, false, true, false, false, false, false]) (d := some 53) rfl (by kernel_rfl) (by kernel_rfl) (by kernel_rfl) (by kernel_rfl) (fun _ _ _ h => h) HF.out rfl ?_ rfl rfl ?_ ?_
              rotate_left
              · intro w' hF; clear hF; go_simp; try rfl
              rotate_left
              · simp only [Act.put]; exact rfl
              refine Calm.take (i := 10) (v := ?_) (a' := ?_) (l' := #[true, true, true, true, true, true, true, true, true, true, true, true, false, false, false, false]) (d := some 54) rfl (by kernel_rfl) (by kernel_rfl) (by kernel_rfl) (by kernel_rfl) (fun _ _ _ h => h) HF.out rfl ?_ rfl rfl ?_ ?_
              rotate_left
              · intro w' hF; clear hF; go_simp; try rfl
              rotate_left
              · simp only [Act.put]; exact rfl
              refine Calm.one (i := 12) (l' := #[true, true, true, true, true, true, true, true, true, true, true, true, true, false, false, false]) (by kernel_rfl) rfl rfl rfl fun K hK => ?_
              go_simp
              have al := below_alloc u3 (.cells #[.bool false, .slice none 0 0] 25)
              have HF' := hide (And.intro (HF.out.1.trans ((al).mono HF.out.1.size)) (And.intro (HF.out.2.1.step (al)) (And.intro (HF.out.2.2.1.step (al)) (And.intro (HF.out.2.2.2.1.step (al)) (And.intro (HF.out.2.2.2.2.1.step (al)) (And.intro (HF.out.2.2.2.2.2.1.step (al)) (And.intro (HF.out.2.2.2.2.2.2.1.step (al)) (And.intro (HF.out.2.2.2.2.2.2.2.1.step (al)) (And.intro (HF.out.2.2.2.2.2.2.2.2.1.below (al)) (And.intro (HF.out.2.2.2.2.2.2.2.2.2.1.below (al)) (And.intro (HF.out.2.2.2.2.2.2.2.2.2.2.1.below (al)) (HF.out.2.2.2.2.2.2.2.2.2.2.2.below (al)))))))))))))
              have BXr := hide (Box.new u3 (.bool false) (.slice none 0 0))
              replace TV := hide (TV.out.below (al))
              replace TW := hide (TW.out.below (al))
              have LTqr := hide (BXq.out.lt)
              replace BXq := hide (BXq.out.step al)
              have LT1r := hide (HF.out.2.1.lt)
              have LT2r := hide (HF.out.2.2.1.lt)
              have LT3r := hide (HF.out.2.2.2.1.lt)
              have LT4r := hide (HF.out.2.2.2.2.1.lt)
              have LT5r := hide (HF.out.2.2.2.2.2.1.lt)
              have LT6r := hide (HF.out.2.2.2.2.2.2.1.lt)
              have LT7r := hide (HF.out.2.2.2.2.2.2.2.1.lt)
              have GEr := hide (HF.out.1.size)
              refine hK _ _ (fun _ => HF'.out) ?_
              clear hK K HF al
              have HF := hide HF'.out
              clear HF'
              generalize u3.alloc (.cells #[.bool false, .slice none 0 0] 25) = wzr at *
              generalize u3.heap.size = gr at *
              refine Calm.one (i := 13) (l' := #[true, true, true, true, true, true, true, true, true, true, true, true, true, true, false, false]) (by kernel_rfl) rfl rfl rfl fun K hK => ?_
              clear LTS
              have LTS := hide (And.intro (LT1q.out) (And.intro (LT2q.out) (And.intro (LT3q.out) (And.intro (LT4q.out) (And.intro (LT5q.out) (And.intro (LT6q.out) (And.intro (LT7q.out) (And.intro (LT1r.out) (And.intro (LT2r.out) (And.intro (LT3r.out) (And.intro (LT4r.out) (And.intro (LT5r.out) (And.intro (LT6r.out) (And.intro (LT7r.out) ((show gq ≠ gr by first | exact Nat.ne_of_lt LTqr.out | exact Nat.ne_of_gt LTrq.out))))))))))))))))
              have hc0 := BXq.out.cell0
              have hc1 := BXq.out.cell1
              have hf0 := BXq.out.free 0
              have hf1 := BXq.out.free 1
              go_simp
              have HF' := hide (And.intro (below_put HF.out.1 (show w.heap.size ≤ gq by have hx := LTS.out; omega) (.bool sv) (.slice mv nv cv)) (And.intro (HF.out.2.1.other (C := gq) (by have hx := LTS.out; omega) (.bool sv) (.slice mv nv cv)) (And.intro (HF.out.2.2.1.other (C := gq) (by have hx := LTS.out; omega) (.bool sv) (.slice mv nv cv)) (And.intro (HF.out.2.2.2.1.other (C := gq) (by have hx := LTS.out; omega) (.bool sv) (.slice mv nv cv)) (And.intro (HF.out.2.2.2.2.1.other (C := gq) (by have hx := LTS.out; omega) (.bool sv) (.slice mv nv cv)) (And.intro (HF.out.2.2.2.2.2.1.other (C := gq) (by have hx := LTS.out; omega) (.bool sv) (.slice mv nv cv)) (And.intro (HF.out.2.2.2.2.2.2.1.other (C := gq) (by have hx := LTS.out; omega) (.bool sv) (.slice mv nv cv)) (And.intro (HF.out.2.2.2.2.2.2.2.1.other (C := gq) (by have hx := LTS.out; omega) (.bool sv) (.slice mv nv cv)) (And.intro (HF.out.2.2.2.2.2.2.2.2.1.keep (BXq.out.keeps (by simp) (by simp) (.bool sv) (.slice mv nv cv))) (And.intro (HF.out.2.2.2.2.2.2.2.2.2.1.keep (BXq.out.keeps (by simp) (by simp) (.bool sv) (.slice mv nv cv))) (And.intro (HF.out.2.2.2.2.2.2.2.2.2.2.1.keep (BXq.out.keeps (by simp) (by simp) (.bool sv) (.slice mv nv cv))) (HF.out.2.2.2.2.2.2.2.2.2.2.2.keep (BXq.out.keeps (by simp) (by simp) (.bool sv) (.slice mv nv cv))))))))))))))
              replace TV := hide (TV.out.keep (BXq.out.keeps (by simp) (by simp) (.bool sv) (.slice mv nv cv)))
              replace TW := hide (TW.out.keep (BXq.out.keeps (by simp) (by simp) (.bool sv) (.slice mv nv cv)))
              replace BXr := hide (BXr.out.other (C := gq) (by have hx := LTS.out; omega) (.bool sv) (.slice mv nv cv))
              replace BXq := hide (BXq.out.put (.bool sv) (.slice mv nv cv))
              refine hK _ _ (fun _ => HF'.out) ?_
              clear hK K HF hc0 hf0 hc1 hf1
              have HF := hide HF'.out
              clear HF'
              generalize ((wzr.setCell ⟨gq, 0, none⟩ (.bool sv)).setCell ⟨gq, 1, none⟩ (.slice mv nv cv)) = ws1 at *
              refine Calm.one (i := 14) (l' := #[true, true, true, true, true, true, true, true, true, true, true, true, true, true, true, false]) (by kernel_rfl) rfl rfl rfl fun K hK => ?_
              have hc0 := BXr.out.cell0
              have hc1 := BXr.out.cell1
              have hf0 := BXr.out.free 0
              have hf1 := BXr.out.free 1
              go_simp
              have HF' := hide (And.intro (below_put HF.out.1 (show w.heap.size ≤ gr by have hx := LTS.out; omega) (.bool sw) (.slice mw nw cw)) (And.intro (HF.out.2.1.other (C := gr) (by have hx := LTS.out; omega) (.bool sw) (.slice mw nw cw)) (And.intro (HF.out.2.2.1.other (C := gr) (by have hx := LTS.out; omega) (.bool sw) (.slice mw nw cw)) (And.intro (HF.out.2.2.2.1.other (C := gr) (by have hx := LTS.out; omega) (.bool sw) (.slice mw nw cw)) (And.intro (HF.out.2.2.2.2.1.other (C := gr) (by have hx := LTS.out; omega) (.bool sw) (.slice mw nw cw)) (And.intro (HF.out.2.2.2.2.2.1.other (C := gr) (by have hx := LTS.out; omega) (.bool sw) (.slice mw nw cw)) (And.intro (HF.out.2.2.2.2.2.2.1.other (C := gr) (by have hx := LTS.out; omega) (.bool sw) (.slice mw nw cw)) (And.intro (HF.out.2.2.2.2.2.2.2.1.other (C := gr) (by have hx := LTS.out; omega) (.bool sw) (.slice mw nw cw)) (And.intro (HF.out.2.2.2.2.2.2.2.2.1.keep (BXr.out.keeps (by simp) (by simp) (.bool sw) (.slice mw nw cw))) (And.intro (HF.out.2.2.2.2.2.2.2.2.2.1.keep (BXr.out.keeps (by simp) (by simp) (.bool sw) (.slice mw nw cw))) (And.intro (HF.out.2.2.2.2.2.2.2.2.2.2.1.keep (BXr.out.keeps (by simp) (by simp) (.bool sw) (.slice mw nw cw))) (HF.out.2.2.2.2.2.2.2.2.2.2.2.keep (BXr.out.keeps (by simp) (by simp) (.bool sw) (.slice mw nw cw))))))))))))))
              replace TV := hide (TV.out.keep (BXr.out.keeps (by simp) (by simp) (.bool sw) (.slice mw nw cw)))
              replace TW := hide (TW.out.keep (BXr.out.keeps (by simp) (by simp) (.bool sw) (.slice mw nw cw)))
              replace BXq := hide (BXq.out.other (C := gr) (by have hx := LTS.out; omega) (.bool sw) (.slice mw nw cw))
              replace BXr := hide (BXr.out.put (.bool sw) (.slice mw nw cw))
              refine hK _ _ (fun _ => HF'.out) ?_
              clear hK K HF hc0 hf0 hc1 hf1
              have HF := hide HF'.out
              clear HF'
              generalize ((ws1.setCell ⟨gr, 0, none⟩ (.bool sw)).setCell ⟨gr, 1, none⟩ (.slice mw nw cw)) = ws2 at *
              refine Calm.take (i := 15) (v := ?_) (a' := ?_) (l' := #[true, true, true, true, true, true, true, true, true, true, true, true, true, true, true, true]) (d := some 14) rfl (by kernel_rfl) (by kernel_rfl) (by kernel_rfl) (by kernel_rfl) (fun _ _ _ h => h) HF.out rfl ?_ rfl rfl ?_ ?_
              rotate_left
              · intro w' hF; clear hF; go_simp; try rfl
              rotate_left
              · simp only [Act.put]; exact rfl
              refine Calm.done (by kernel_rfl) ?_
              go_wp2
              go_meet
              case rel => exact ⟨gq, sv, mv, nv, cv, rfl, (by have hx := LTS.out; omega), ⟨HF.out.1, HF.out.2.2.2.1, HF.out.2.2.2.2.1, HF.out.2.2.2.2.2.1, HF.out.2.2.2.2.2.2.1, HF.out.2.2.2.2.2.2.2.1, HF.out.2.2.2.2.2.2.2.2.2.2.1, HF.out.2.2.2.2.2.2.2.2.2.2.2⟩, BXq.out, TV.out⟩
            · go_simp
              have al := below_alloc u2 (.cells #[.bool false, .slice none 0 0] 25)
              have HF' := hide (And.intro (HF.out.1.trans ((al).mono HF.out.1.size)) (And.intro (HF.out.2.1.step (al)) (And.intro (HF.out.2.2.1.step (al)) (And.intro (HF.out.2.2.2.1.step (al)) (And.intro (HF.out.2.2.2.2.1.step (al)) (And.intro (HF.out.2.2.2.2.2.1.step (al)) (And.intro (HF.out.2.2.2.2.2.2.1.step (al)) (And.intro (HF.out.2.2.2.2.2.2.2.1.step (al)) (And.intro (HF.out.2.2.2.2.2.2.2.2.1.below (al)) (And.intro (HF.out.2.2.2.2.2.2.2.2.2.1.below (al)) (And.intro (HF.out.2.2.2.2.2.2.2.2.2.2.1.below (al)) (HF.out.2.2.2.2.2.2.2.2.2.2.2.below (al)))))))))))))
              have BXr := hide (Box.new u2 (.bool false) (.slice none 0 0))
              replace T2 := hide (T2.out.below (al))
              have LTqr := hide (BXq.out.lt)
              replace BXq := hide (BXq.out.step al)
              have LT1r := hide (HF.out.2.1.lt)
              have LT2r := hide (HF.out.2.2.1.lt)
              have LT3r := hide (HF.out.2.2.2.1.lt)
              have LT4r := hide (HF.out.2.2.2.2.1.lt)
              have LT5r := hide (HF.out.2.2.2.2.2.1.lt)
              have LT6r := hide (HF.out.2.2.2.2.2.2.1.lt)
              have LT7r := hide (HF.out.2.2.2.2.2.2.2.1.lt)
              have GEr := hide (HF.out.1.size)
              refine hK _ _ (fun _ => HF'.out) ?_
              clear hK K HF al
              have HF := hide HF'.out
              clear HF'
              generalize u2.alloc (.cells #[.bool false, .slice none 0 0] 25) = wzr at *
              generalize u2.heap.size = gr at *
              refine Calm.one (i := 6) (l' := #[true, true, true, true, true, true, true, false, false, false, false, true, true, false, false, false]) (by kernel_rfl) rfl rfl rfl fun K hK => ?_
              go_simp
              refine (idivmod_any _ _ (d - (u % (y / d)) * x) y _ T2.out HF.out.2.2.2.2.2.2.2.2.2.1 (SzI.len (SzI.sub SGG.out (SzI.mul SN.out SX.out)) (by have := HK.out; omega)) (SzI.len SY.out (by have := HK.out; omega)) HY.out).mono ?_
              rintro e u3 ⟨a, b, rfl, na, nb, hb⟩
              obtain ⟨sv, mv, nv, cv, rfl, na⟩ := na.cells
              obtain ⟨sw, mw, nw, cw, rfl, nb⟩ := nb.cells
              clear T2
              replace BXq := hide (BXq.out.step hb)
              replace BXr := hide (BXr.out.step hb)
              have HF' := hide (And.intro (HF.out.1.trans ((hb).mono HF.out.1.size)) (And.intro (HF.out.2.1.step (hb)) (And.intro (HF.out.2.2.1.step (hb)) (And.intro (HF.out.2.2.2.1.step (hb)) (And.intro (HF.out.2.2.2.2.1.step (hb)) (And.intro (HF.out.2.2.2.2.2.1.step (hb)) (And.intro (HF.out.2.2.2.2.2.2.1.step (hb)) (And.intro (HF.out.2.2.2.2.2.2.2.1.step (hb)) (And.intro (HF.out.2.2.2.2.2.2.2.2.1.below (hb)) (And.intro (HF.out.2.2.2.2.2.2.2.2.2.1.below (hb)) (And.intro (HF.out.2.2.2.2.2.2.2.2.2.2.1.below (hb)) (HF.out.2.2.2.2.2.2.2.2.2.2.2.below (hb)))))))))))))
              have TV := hide (na)
              have TW := hide (nb)
              refine hK _ _ (fun _ => HF'.out) ?_
              clear hK K HF hb na nb
              have HF := hide HF'.out
              clear HF'
              refine Calm.take (i := 7) (v := ?_) (a' := ?_) (l' := #[true, true, true, true, true, true, true, true, false, false, false, true, true, false, false, false]) (d := some 44) rfl (by kernel_rfl) (by kernel_rfl) (by kernel_rfl) (by kernel_rfl) (fun _ _ _ h => h) HF.out rfl ?_ rfl rfl ?_ ?_
              rotate_left
              · intro w' hF; clear hF; go_simp; try rfl
              rotate_left
              · simp only [Act.put]; exact rfl
              refine Calm.take (i := 8) (v := ?_) (a' := ?_) (l' := #[true, true, true, true, true, true, true, true, true, false, false, true, true, false, false, false]) (d := some 52) rfl (by kernel_rfl) (by kernel_rfl) (by kernel_rfl) (by kernel_rfl) (fun _ _ _ h => h) HF.out rfl ?_ rfl rfl ?_ ?_
              rotate_left
              · intro w' hF; clear hF; go_simp; try rfl
              rotate_left
              · simp only [Act.put]; exact rfl
              refine Calm.take (i := 9) (v := ?_) (a' := ?_) (l' := #[true, true, true, true, true, true, true, true, true, true, false, true, true, false, false, false]) (d := some 53) rfl (by kernel_rfl) (by kernel_rfl) (by kernel_rfl) (by kernel_rfl) (fun _ _ _ h => h) HF.out rfl ?_ rfl rfl ?_ ?_
              rotate_left
              · intro w' hF; clear hF; go_simp; try rfl
              rotate_left
              · simp only [Act.put]; exact rfl
              refine Calm.take (i := 10) (v := ?_) (a' := ?_) (l' := #[true, true, true, true, true, true, true, true, true, true, true, true, true, false, false, false]) (d := some 54) rfl (by kernel_rfl) (by kernel_rfl) (by kernel_rfl) (by kernel_rfl) (fun _ _ _ h => h) HF.out rfl ?_ rfl rfl ?_ ?_
              rotate_left
              · intro w' hF; clear hF; go_simp; try rfl
              rotate_left
              · simp only [Act.put]; exact rfl
              refine Calm.one (i := 13) (l' := #[true, true, true, true, true, true, true, true, true, true, true, true, true, true, false, false]) (by kernel_rfl) rfl rfl rfl fun K hK => ?_
              clear LTS
              have LTS := hide (And.intro (LT1q.out) (And.intro (LT2q.out) (And.intro (LT3q.out) (And.intro (LT4q.out) (And.intro (LT5q.out) (And.intro (LT6q.out) (And.intro (LT7q.out) (And.intro (LT1r.out) (And.intro (LT2r.out) (And.intro (LT3r.out) (And.intro (LT4r.out) (And.intro (LT5r.out) (And.intro (LT6r.out) (And.intro (LT7r.out) ((show gq ≠ gr by first | exact Nat.ne_of_lt LTqr.out | exact Nat.ne_of_gt LTrq.out))))))))))))))))
              have hc0 := BXq.out.cell0
              have hc1 := BXq.out.cell1
              have hf0 := BXq.out.free 0
              have hf1 := BXq.out.free 1
              go_simp
              have HF' := hide (And.intro (below_put HF.out.1 (show w.heap.size ≤ gq by have hx := LTS.out; omega) (.bool sv) (.slice mv nv cv)) (And.intro (HF.out.2.1.other (C := gq) (by have hx := LTS.out; omega) (.bool sv) (.slice mv nv cv)) (And.intro (HF.out.2.2.1.other (C := gq) (by have hx := LTS.out; omega) (.bool sv) (.slice mv nv cv)) (And.intro (HF.out.2.2.2.1.other (C := gq) (by have hx := LTS.out; omega) (.bool sv) (.slice mv nv cv)) (And.intro (HF.out.2.2.2.2.1.other (C := gq) (by have hx := LTS.out; omega) (.bool sv) (.slice mv nv cv)) (And.intro (HF.out.2.2.2.2.2.1.other (C := gq) (by have hx := LTS.out; omega) (.bool sv) (.slice mv nv cv)) (And.intro (HF.out.2.2.2.2.2.2.1.other (C := gq) (by have hx := LTS.out; omega) (.bool sv) (.slice mv nv cv)) (And.intro (HF.out.2.2.2.2.2.2.2.1.other (C := gq) (by have hx := LTS.out; omega) (.bool sv) (.slice mv nv cv)) (And.intro (HF.out.2.2.2.2.2.2.2.2.1.keep (BXq.out.keeps (by simp) (by simp) (.bool sv) (.slice mv nv cv))) (And.intro (HF.out.2.2.2.2.2.2.2.2.2.1.keep (BXq.out.keeps (by simp) (by simp) (.bool sv) (.slice mv nv cv))) (And.intro (HF.out.2.2.2.2.2.2.2.2.2.2.1.keep (BXq.out.keeps (by simp) (by simp) (.bool sv) (.slice mv nv cv))) (HF.out.2.2.2.2.2.2.2.2.2.2.2.keep (BXq.out.keeps (by simp) (by simp) (.bool sv) (.slice mv nv cv))))))))))))))
              replace TV := hide (TV.out.keep (BXq.out.keeps (by simp) (by simp) (.bool sv) (.slice mv nv cv)))
              replace TW := hide (TW.out.keep (BXq.out.keeps (by simp) (by simp) (.bool sv) (.slice mv nv cv)))
              replace BXr := hide (BXr.out.other (C := gq) (by have hx := LTS.out; omega) (.bool sv) (.slice mv nv cv))
              replace BXq := hide (BXq.out.put (.bool sv) (.slice mv nv cv))
              refine hK _ _ (fun _ => HF'.out) ?_
              clear hK K HF hc0 hf0 hc1 hf1
              have HF := hide HF'.out
              clear HF'
              generalize ((u3.setCell ⟨gq, 0, none⟩ (.bool sv)).setCell ⟨gq, 1, none⟩ (.slice mv nv cv)) = ws1 at *
              refine Calm.one (i := 14) (l' := #[true, true, true, true, true, true, true, true, true, true, true, true, true, true, true, false]) (by kernel_rfl) rfl rfl rfl fun K hK => ?_
              have hc0 := BXr.out.cell0
              have hc1 := BXr.out.cell1
              have hf0 := BXr.out.free 0
              have hf1 := BXr.out.free 1
              go_simp
              have HF' := hide (And.intro (below_put HF.out.1 (show w.heap.size ≤ gr by have hx := LTS.out; omega) (.bool sw) (.slice mw nw cw)) (And.intro (HF.out.2.1.other (C := gr) (by have hx := LTS.out; omega) (.bool sw) (.slice mw nw cw)) (And.intro (HF.out.2.2.1.other (C := gr) (by have hx := LTS.out; omega) (.bool sw) (.slice mw nw cw)) (And.intro (HF.out.2.2.2.1.other (C := gr) (by have hx := LTS.out; omega) (.bool sw) (.slice mw nw cw)) (And.intro (HF.out.2.2.2.2.1.other (C := gr) (by have hx := LTS.out; omega) (.bool sw) (.slice mw nw cw)) (And.intro (HF.out.2.2.2.2.2.1.other (C := gr) (by have hx := LTS.out; omega) (.bool sw) (.slice mw nw cw)) (And.intro (HF.out.2.2.2.2.2.2.1.other (C := gr) (by have hx := LTS.out; omega) (.bool sw) (.slice mw nw cw)) (And.intro (HF.out.2.2.2.2.2.2.2.1.other (C := gr) (by have hx := LTS.out; omega) (.bool sw) (.slice mw nw cw)) (And.intro (HF.out.2.2.2.2.2.2.2.2.1.keep (BXr.out.keeps (by simp) (by simp) (.bool sw) (.slice mw nw cw))) (And.intro (HF.out.2.2.2.2.2.2.2.2.2.1.keep (BXr.out.keeps (by simp) (by simp) (.bool sw) (.slice mw nw cw))) (And.intro (HF.out.2.2.2.2.2.2.2.2.2.2.1.keep (BXr.out.keeps (by simp) (by simp) (.bool sw) (.slice mw nw cw))) (HF.out.2.2.2.2.2.2.2.2.2.2.2.keep (BXr.out.keeps (by simp) (by simp) (.bool sw) (.slice mw nw cw))))))))))))))
              replace TV := hide (TV.out.keep (BXr.out.keeps (by simp) (by simp) (.bool sw) (.slice mw nw cw)))
              replace TW := hide (TW.out.keep (BXr.out.keeps (by simp) (by simp) (.bool sw) (.slice mw nw cw)))
              replace BXq := hide (BXq.out.other (C := gr) (by have hx := LTS.out; omega) (.bool sw) (.slice mw nw cw))
              replace BXr := hide (BXr.out.put (.bool sw) (.slice mw nw cw))
              refine hK _ _ (fun _ => HF'.out) ?_
              clear hK K HF hc0 hf0 hc1 hf1
              have HF := hide HF'.out
              clear HF'
              generalize ((ws1.setCell ⟨gr, 0, none⟩ (.bool sw)).setCell ⟨gr, 1, none⟩ (.slice mw nw cw)) = ws2 at *
              refine Calm.take (i := 15) (v := ?_) (a' := ?_) (l' := #[true, true, true, true, true, true, true, true, true, true, true, true, true, true, true, true]) (d := some 14) rfl (by kernel_rfl) (by kernel_rfl) (by kernel_rfl) (by kernel_rfl) (fun _ _ _ h => h) HF.out rfl ?_ rfl rfl ?_ ?_
              rotate_left
              · intro w' hF; clear hF; go_simp; try rfl
              rotate_left
              · simp only [Act.put]; exact rfl
              refine Calm.done (by kernel_rfl) ?_
              go_wp2
              go_meet
              case rel => exact ⟨gq, sv, mv, nv, cv, rfl, (by have hx := LTS.out; omega), ⟨HF.out.1, HF.out.2.2.2.1, HF.out.2.2.2.2.1, HF.out.2.2.2.2.2.1, HF.out.2.2.2.2.2.2.1, HF.out.2.2.2.2.2.2.2.1, HF.out.2.2.2.2.2.2.2.2.2.2.1, HF.out.2.2.2.2.2.2.2.2.2.2.2⟩, BXq.out, TV.out⟩
          · go_simp
            have al := below_alloc wzq (.cells #[.bool false, .slice none 0 0] 25)
            have HF' := hide (And.intro (HF.out.1.trans ((al).mono HF.out.1.size)) (And.intro (HF.out.2.1.step (al)) (And.intro (HF.out.2.2.1.step (al)) (And.intro (HF.out.2.2.2.1.step (al)) (And.intro (HF.out.2.2.2.2.1.step (al)) (And.intro (HF.out.2.2.2.2.2.1.step (al)) (And.intro (HF.out.2.2.2.2.2.2.1.step (al)) (And.intro (HF.out.2.2.2.2.2.2.2.1.step (al)) (And.intro (HF.out.2.2.2.2.2.2.2.2.1.below (al)) (And.intro (HF.out.2.2.2.2.2.2.2.2.2.1.below (al)) (And.intro (HF.out.2.2.2.2.2.2.2.2.2.2.1.below (al)) (HF.out.2.2.2.2.2.2.2.2.2.2.2.below (al)))))))))))))
            have BXr := hide (Box.new wzq (.bool false) (.slice none 0 0))
            replace T1 := hide (T1.out.below (al))
            have LTqr := hide (BXq.out.lt)
            replace BXq := hide (BXq.out.step al)
            have LT1r := hide (HF.out.2.1.lt)
            have LT2r := hide (HF.out.2.2.1.lt)
            have LT3r := hide (HF.out.2.2.2.1.lt)
            have LT4r := hide (HF.out.2.2.2.2.1.lt)
            have LT5r := hide (HF.out.2.2.2.2.2.1.lt)
            have LT6r := hide (HF.out.2.2.2.2.2.2.1.lt)
            have LT7r := hide (HF.out.2.2.2.2.2.2.2.1.lt)
            have GEr := hide (HF.out.1.size)
            refine hK _ _ (fun _ => HF'.out) ?_
            clear hK K HF al
            have HF := hide HF'.out
            clear HF'
            generalize wzq.alloc (.cells #[.bool false, .slice none 0 0] 25) = wzr at *
            generalize wzq.heap.size = gr at *
            refine Calm.one (i := 4) (l' := #[true, true, true, true, true, true, false, false, false, false, false, true, true, false, false, false]) (by kernel_rfl) rfl rfl rfl fun K hK => ?_
            go_simp
            refine (isub_any _ _ d ((u % (y / d)) * x) _ HF.out.2.2.2.2.2.2.2.2.2.2.1 T1.out (SzI.len SGG.out (by have := HK.out; omega)) (SzI.len (SzI.mul SN.out SX.out) (by have := HK.out; omega))).mono ?_
            rintro e u2 ⟨v, rfl, n, hb⟩
            clear T1
            replace BXq := hide (BXq.out.step hb)
            replace BXr := hide (BXr.out.step hb)
            have HF' := hide (And.intro (HF.out.1.trans ((hb).mono HF.out.1.size)) (And.intro (HF.out.2.1.step (hb)) (And.intro (HF.out.2.2.1.step (hb)) (And.intro (HF.out.2.2.2.1.step (hb)) (And.intro (HF.out.2.2.2.2.1.step (hb)) (And.intro (HF.out.2.2.2.2.2.1.step (hb)) (And.intro (HF.out.2.2.2.2.2.2.1.step (hb)) (And.intro (HF.out.2.2.2.2.2.2.2.1.step (hb)) (And.intro (HF.out.2.2.2.2.2.2.2.2.1.below (hb)) (And.intro (HF.out.2.2.2.2.2.2.2.2.2.1.below (hb)) (And.intro (HF.out.2.2.2.2.2.2.2.2.2.2.1.below (hb)) (HF.out.2.2.2.2.2.2.2.2.2.2.2.below (hb)))))))))))))
            have T2 := hide (n)
            refine hK _ _ (fun _ => HF'.out) ?_
            clear hK K HF hb n
            have HF := hide HF'.out
            clear HF'
            refine Calm.one (i := 6) (l' := #[true, true, true, true, true, true, true, false, false, false, false, true, true, false, false, false]) (by kernel_rfl) rfl rfl rfl fun K hK => ?_
            go_simp
            refine (idivmod_any _ _ (d - (u % (y / d)) * x) y _ T2.out HF.out.2.2.2.2.2.2.2.2.2.1 (SzI.len (SzI.sub SGG.out (SzI.mul SN.out SX.out)) (by have := HK.out; omega)) (SzI.len SY.out (by have := HK.out; omega)) HY.out).mono ?_
            rintro e u3 ⟨a, b, rfl, na, nb, hb⟩
            obtain ⟨sv, mv, nv, cv, rfl, na⟩ := na.cells
            obtain ⟨sw, mw, nw, cw, rfl, nb⟩ := nb.cells
            clear T2
            replace BXq := hide (BXq.out.step hb)
            replace BXr := hide (BXr.out.step hb)
            have HF' := hide (And.intro (HF.out.1.trans ((hb).mono HF.out.1.size)) (And.intro (HF.out.2.1.step (hb)) (And.intro (HF.out.2.2.1.step (hb)) (And.intro (HF.out.2.2.2.1.step (hb)) (And.intro (HF.out.2.2.2.2.1.step (hb)) (And.intro (HF.out.2.2.2.2.2.1.step (hb)) (And.intro (HF.out.2.2.2.2.2.2.1.step (hb)) (And.intro (HF.out.2.2.2.2.2.2.2.1.step (hb)) (And.intro (HF.out.2.2.2.2.2.2.2.2.1.below (hb)) (And.intro (HF.out.2.2.2.2.2.2.2.2.2.1.below (hb)) (And.intro (HF.out.2.2.2.2.2.2.2.2.2.2.1.below (hb)) (HF.out.2.2.2.2.2.2.2.2.2.2.2.below (hb)))))))))))))
            have TV := hide (na)
            have TW := hide (nb)
            refine hK _ _ (fun _ => HF'.out) ?_
            clear hK K HF hb na nb
            have HF := hide HF'.out
            clear HF'
            refine Calm.take (i := 7) (v := ?_) (a' := ?_) (l' := #[true, true, true, true, true, true, true, true, false, false, false, true, true, false, false, false]) (d := some 44) rfl (by kernel_rfl) (by kernel_rfl) (by kernel_rfl) (by kernel_rfl) (fun _ _ _ h => h) HF.out rfl ?_ rfl rfl ?_ ?_
            rotate_left
            · intro w' hF; clear hF; go_simp; try rfl
            rotate_left
            · simp only [Act.put]; exact rfl
            refine Calm.take (i := 8) (v := ?_) (a' := ?_) (l' := #[true, true, true, true, true, true, true, true, true, false, false, true, true, false, false, false]) (d := some 52) rfl (by kernel_rfl) (by kernel_rfl) (by kernel_rfl) (by kernel_rfl) (fun _ _ _ h => h) HF.out rfl ?_ rfl rfl ?_ ?_
            rotate_left
            · intro w' hF; clear hF; go_simp; try rfl
            rotate_left
            · simp only [Act.put]; exact rfl
            refine Calm.take (i := 9) (v := ?_) (a' := ?_) (l' := #[true, true, true, true, true, true, true, true, true, true, false, true, true, false, false, false]) (d := some 53) rfl (by kernel_rfl) (by kernel_rfl) (by kernel_rfl) (by kernel_rfl) (fun _ _ _ h => h) HF.out rfl ?_ rfl rfl ?_ ?_
            rotate_left
            · intro w' hF; clear hF; go_simp; try rfl
            rotate_left
            · simp only [Act.put]; exact rfl
            refine Calm.take (i := 10) (v := ?_) (a' := ?_) (l' := #[true, true, true, true, true, true, true, true, true, true, true, true, true, false, false, false]) (d := some 54) rfl (by kernel_rfl) (by kernel_rfl) (by kernel_rfl) (by kernel_rfl) (fun _ _ _ h => h) HF.out rfl ?_ rfl rfl ?_ ?_
            rotate_left
            · intro w' hF; clear hF; go_simp; try rfl
            rotate_left
            · simp only [Act.put]; exact rfl
            refine Calm.one (i := 13) (l' := #[true, true, true, true, true, true, true, true, true, true, true, true, true, true, false, false]) (by kernel_rfl) rfl rfl rfl fun K hK => ?_
            clear LTS
            have LTS := hide (And.intro (LT1q.out) (And.intro (LT2q.out) (And.intro (LT3q.out) (And.intro (LT4q.out) (And.intro (LT5q.out) (And.intro (LT6q.out) (And.intro (LT7q.out) (And.intro (LT1r.out) (And.intro (LT2r.out) (And.intro (LT3r.out) (And.intro (LT4r.out) (And.intro (LT5r.out) (And.intro (LT6r.out) (And.intro (LT7r.out) ((show gq ≠ gr by first | exact Nat.ne_of_lt LTqr.out | exact Nat.ne_of_gt LTrq.out))))))))))))))))
            have hc0 := BXq.out.cell0
            have hc1 := BXq.out.cell1
            have hf0 := BXq.out.free 0
            have hf1 := BXq.out.free 1
            go_simp
            have HF' := hide (And.intro (below_put HF.out.1 (show w.heap.size ≤ gq by have hx := LTS.out; omega) (.bool sv) (.slice mv nv cv)) (And.intro (HF.out.2.1.other (C := gq) (by have hx := LTS.out; omega) (.bool sv) (.slice mv nv cv)) (And.intro (HF.out.2.2.1.other (C := gq) (by have hx := LTS.out; omega) (.bool sv) (.slice mv nv cv)) (And.intro (HF.out.2.2.2.1.other (C := gq) (by have hx := LTS.out; omega) (.bool sv) (.slice mv nv cv)) (And.intro (HF.out.2.2.2.2.1.other (C := gq) (by have hx := LTS.out; omega) (.bool sv) (.slice mv nv cv)) (And.intro (HF.out.2.2.2.2.2.1.other (C := gq) (by have hx := LTS.out; omega) (.bool sv) (.slice mv nv cv)) (And.intro (HF.out.2.2.2.2.2.2.1.other (C := gq) (by have hx := LTS.out; omega) (.bool sv) (.slice mv nv cv)) (And.intro (HF.out.2.2.2.2.2.2.2.1.other (C := gq) (by have hx := LTS.out; omega) (.bool sv) (.slice mv nv cv)) (And.intro (HF.out.2.2.2.2.2.2.2.2.1.keep (BXq.out.keeps (by simp) (by simp) (.bool sv) (.slice mv nv cv))) (And.intro (HF.out.2.2.2.2.2.2.2.2.2.1.keep (BXq.out.keeps (by simp) (by simp) (.bool sv) (.slice mv nv cv))) (And.intro (HF.out.2.2.2.2.2.2.2.2.2.2.1.keep (BXq.out.keeps (by simp) (by simp) (.bool sv) (.slice mv nv cv))) (HF.out.2.2.2.2.2.2.2.2.2.2.2.keep (BXq.out.keeps (by simp) (by simp) (.bool sv) (.slice mv nv cv))))))))))))))
            replace TV := hide (TV.out.keep (BXq.out.keeps (by simp) (by simp) (.bool sv) (.slice mv nv cv)))
            replace TW := hide (TW.out.keep (BXq.out.keeps (by simp) (by simp) (.bool sv) (.slice mv nv cv)))
            replace BXr := hide (BXr.out.other (C := gq) (by have hx := LTS.out; omega) (.bool sv) (.slice mv nv cv))
            replace BXq := hide (BXq.out.put (.bool sv) (.slice mv nv cv))
            refine hK _ _ (fun _ => HF'.out) ?_
            clear hK K HF hc0 hf0 hc1 hf1
            have HF := hide HF'.out
            clear HF'
            generalize ((u3.setCell ⟨gq, 0, none⟩ (.bool sv)).setCell ⟨gq, 1, none⟩ (.slice mv nv cv)) = ws1 at *
            refine Calm.one (i := 14) (l' := #[true, true, true, true, true, true, true, true, true, true, true, true, true, true, true, false]) (by kernel_rfl) rfl rfl rfl fun K hK => ?_
            have hc0 := BXr.out.cell0
            have hc1 := BXr.out.cell1
            have hf0 := BXr.out.free 0
            have hf1 := BXr.out.free 1
            go_simp
            have HF' := hide (And.intro (below_put HF.out.1 (show w.heap.size ≤ gr by have hx := LTS.out; omega) (.bool sw) (.slice mw nw cw)) (And.intro (HF.out.2.1.other (C := gr) (by have hx := LTS.out; omega) (.bool sw) (.slice mw nw cw)) (And.intro (HF.out.2.2.1.other (C := gr) (by have hx := LTS.out; omega) (.bool sw) (.slice mw nw cw)) (And.intro (HF.out.2.2.2.1.other (C := gr) (by have hx := LTS.out; omega) (.bool sw) (.slice mw nw cw)) (And.intro (HF.out.2.2.2.2.1.other (C := gr) (by have hx := LTS.out; omega) (.bool sw) (.slice mw nw cw)) (And.intro (HF.out.2.2.2.2.2.1.other (C := gr) (by have hx := LTS.out; omega) (.bool sw) (.slice mw nw cw)) (And.intro (HF.out.2.2.2.2.2.2.1.other (C := gr) (by have hx := LTS.out; omega) (.bool sw) (.slice mw nw cw)) (And.intro (HF.out.2.2.2.2.2.2.2.1.other (C := gr) (by have hx := LTS.out; omega) (.bool sw) (.slice mw nw cw)) (And.intro (HF.out.2.2.2.2.2.2.2.2.1.keep (BXr.out.keeps (by simp) (by simp) (.bool sw) (.slice mw nw cw))) (And.intro (HF.out.2.2.2.2.2.2.2.2.2.1.keep (BXr.out.keeps (by simp) (by simp) (.bool sw) (.slice mw nw cw))) (And.intro (HF.out.2.2.2.2.2.2.2.2.2.2.1.keep (BXr.out.keeps (by simp) (by simp) (.bool sw) (.slice mw nw cw))) (HF.out.2.2.2.2.2.2.2.2.2.2.2.keep (BXr.out.keeps (by simp) (by simp) (.bool sw) (.slice mw nw cw))))))))))))))
            replace TV := hide (TV.out.keep (BXr.out.keeps (by simp) (by simp) (.bool sw) (.slice mw nw cw)))
            replace TW := hide (TW.out.keep (BXr.out.keeps (by simp) (by simp) (.bool sw) (.slice mw nw cw)))
            replace BXq := hide (BXq.out.other (C := gr) (by have hx := LTS.out; omega) (.bool sw) (.slice mw nw cw))
            replace BXr := hide (BXr.out.put (.bool sw) (.slice mw nw cw))
            refine hK _ _ (fun _ => HF'.out) ?_
            clear hK K HF hc0 hf0 hc1 hf1
            have HF := hide HF'.out
            clear HF'
            generalize ((ws1.setCell ⟨gr, 0, none⟩ (.bool sw)).setCell ⟨gr, 1, none⟩ (.slice mw nw cw)) = ws2 at *
            refine Calm.take (i := 15) (v := ?_) (a' := ?_) (l' := #[true, true, true, true, true, true, true, true, true, true, true, true, true, true, true, true]) (d := some 14) rfl (by kernel_rfl) (by kernel_rfl) (by kernel_rfl) (by kernel_rfl) (fun _ _ _ h => h) HF.out rfl ?_ rfl rfl ?_ ?_
            rotate_left
            · intro w' hF; clear hF; go_simp; try rfl
            rotate_left
            · simp only [Act.put]; exact rfl
            refine Calm.done (by kernel_rfl) ?_
            go_wp2
            go_meet
            case rel => exact ⟨gq, sv, mv, nv, cv, rfl, (by have hx := LTS.out; omega), ⟨HF.out.1, HF.out.2.2.2.1, HF.out.2.2.2.2.1, HF.out.2.2.2.2.2.1, HF.out.2.2.2.2.2.2.1, HF.out.2.2.2.2.2.2.2.1, HF.out.2.2.2.2.2.2.2.2.2.2.1, HF.out.2.2.2.2.2.2.2.2.2.2.2⟩, BXq.out, TV.out⟩
        · go_simp
          have al := below_alloc u1 (.cells #[.bool false, .slice none 0 0] 25)
          have HF' := hide (And.intro (HF.out.1.trans ((al).mono HF.out.1.size)) (And.intro (HF.out.2.1.step (al)) (And.intro (HF.out.2.2.1.step (al)) (And.intro (HF.out.2.2.2.1.step (al)) (And.intro (HF.out.2.2.2.2.1.step (al)) (And.intro (HF.out.2.2.2.2.2.1.step (al)) (And.intro (HF.out.2.2.2.2.2.2.1.step (al)) (And.intro (HF.out.2.2.2.2.2.2.2.1.step (al)) (And.intro (HF.out.2.2.2.2.2.2.2.2.1.below (al)) (And.intro (HF.out.2.2.2.2.2.2.2.2.2.1.below (al)) (And.intro (HF.out.2.2.2.2.2.2.2.2.2.2.1.below (al)) (HF.out.2.2.2.2.2.2.2.2.2.2.2.below (al)))))))))))))
          have BXr := hide (Box.new u1 (.bool false) (.slice none 0 0))
          replace T1 := hide (T1.out.below (al))
          have LT1r := hide (HF.out.2.1.lt)
          have LT2r := hide (HF.out.2.2.1.lt)
          have LT3r := hide (HF.out.2.2.2.1.lt)
          have LT4r := hide (HF.out.2.2.2.2.1.lt)
          have LT5r := hide (HF.out.2.2.2.2.2.1.lt)
          have LT6r := hide (HF.out.2.2.2.2.2.2.1.lt)
          have LT7r := hide (HF.out.2.2.2.2.2.2.2.1.lt)
          have GEr := hide (HF.out.1.size)
          refine hK _ _ (fun _ => HF'.out) ?_
          clear hK K HF al
          have HF := hide HF'.out
          clear HF'
          generalize u1.alloc (.cells #[.bool false, .slice none 0 0] 25) = wzr at *
          generalize u1.heap.size = gr at *
          refine Calm.two (i := 4) (j := 11) (l := #[true, true, true, true, true, true, false, false, false, false, false, false, true, false, false, false]) (l' := #[true, true, true, true, false, true, false, false, false, false, false, true, true, false, false, false]) (by kernel_rfl) rfl rfl rfl rfl rfl rfl (fun K hK => ?_) (fun K hK => ?_)
          · go_simp
            refine (isub_any _ _ d ((u % (y / d)) * x) _ HF.out.2.2.2.2.2.2.2.2.2.2.1 T1.out (SzI.len SGG.out (by have := HK.out; omega)) (SzI.len (SzI.mul SN.out SX.out) (by have := HK.out; omega))).mono ?_
            rintro e u2 ⟨v, rfl, n, hb⟩
            clear T1
            replace BXr := hide (BXr.out.step hb)
            have HF' := hide (And.intro (HF.out.1.trans ((hb).mono HF.out.1.size)) (And.intro (HF.out.2.1.step (hb)) (And.intro (HF.out.2.2.1.step (hb)) (And.intro (HF.out.2.2.2.1.step (hb)) (And.intro (HF.out.2.2.2.2.1.step (hb)) (And.intro (HF.out.2.2.2.2.2.1.step (hb)) (And.intro (HF.out.2.2.2.2.2.2.1.step (hb)) (And.intro (HF.out.2.2.2.2.2.2.2.1.step (hb)) (And.intro (HF.out.2.2.2.2.2.2.2.2.1.below (hb)) (And.intro (HF.out.2.2.2.2.2.2.2.2.2.1.below (hb)) (And.intro (HF.out.2.2.2.2.2.2.2.2.2.2.1.below (hb)) (HF.out.2.2.2.2.2.2.2.2.2.2.2.below (hb)))))))))))))
            have T2 := hide (n)
            refine hK _ _ (fun _ => HF'.out) ?_
            clear hK K HF hb n
            have HF := hide HF'.out
            clear HF'
            refine Calm.two (i := 6) (j := 11) (l := #[true, true, true, true, true, true, true, false, false, false, false, false, true, false, false, false]) (l' := #[true, true, true, true, true, true, false, false, false, false, false, true, true, false, false, false]) (by kernel_rfl) rfl rfl rfl rfl rfl rfl (fun K hK => ?_) (fun K hK => ?_)
            · go_simp
              refine (idivmod_any _ _ (d - (u % (y / d)) * x) y _ T2.out HF.out.2.2.2.2.2.2.2.2.2.1 (SzI.len (SzI.sub SGG.out (SzI.mul SN.out SX.out)) (by have := HK.out; omega)) (SzI.len SY.out (by have := HK.out; omega)) HY.out).mono ?_
              rintro e u3 ⟨a, b, rfl, na, nb, hb⟩
              obtain ⟨sv, mv, nv, cv, rfl, na⟩ := na.cells
              obtain ⟨sw, mw, nw, cw, rfl, nb⟩ := nb.cells
              clear T2
              replace BXr := hide (BXr.out.step hb)
              have HF' := hide (And.intro (HF.out.1.trans ((hb).mono HF.out.1.size)) (And.intro (HF.out.2.1.step (hb)) (And.intro (HF.out.2.2.1.step (hb)) (And.intro (HF.out.2.2.2.1.step (hb)) (And.intro (HF.out.2.2.2.2.1.step (hb)) (And.intro (HF.out.2.2.2.2.2.1.step (hb)) (And.intro (HF.out.2.2.2.2.2.2.1.step (hb)) (And.intro (HF.out.2.2.2.2.2.2.2.1.step (hb)) (And.intro (HF.out.2.2.2.2.2.2.2.2.1.below (hb)) (And.intro (HF.out.2.2.2.2.2.2.2.2.2.1.below (hb)) (And.intro (HF.out.2.2.2.2.2.2.2.2.2.2.1.below (hb)) (HF.out.2.2.2.2.2.2.2.2.2.2.2.below (hb)))))))))))))
              have TV := hide (na)
              have TW := hide (nb)
              refine hK _ _ (fun _ => HF'.out) ?_
              clear hK K HF hb na nb
              have HF := hide HF'.out
              clear HF'
              refine Calm.take (i := 7) (v := ?_) (a' := ?_) (l' := #[true, true, true, true, true, true, true, true, false, false, false, false, true, false, false, false]) (d := some 44) rfl (by kernel_rfl) (by kernel_rfl) (by kernel_rfl) (by kernel_rfl) (fun _ _ _ h => h) HF.out rfl ?_ rfl rfl ?_ ?_
              rotate_left
              · intro w' hF; clear hF; go_simp; try rfl
              rotate_left
              · simp only [Act.put]; exact rfl
              refine Calm.take (i := 8) (v := ?_) (a' := ?_) (l' := #[true, true, true, true, true, true, true, true, true, false, false, false, true, false, false, false]) (d := some 52) rfl (by kernel_rfl) (by kernel_rfl) (by kernel_rfl) (by kernel_rfl) (fun _ _ _ h => h) HF.out rfl ?_ rfl rfl ?_ ?_
              rotate_left
              · intro w' hF; clear hF; go_simp; try rfl
              rotate_left
              · simp only [Act.put]; exact rfl
              refine Calm.take (i := 9) (v := ?_) (a' := ?_) (l' := #[true, true, true, true, true, true, true, true, true, true, false, false, true, false, false, false]) (d := some 53) rfl (by kernel_rfl) (by kernel_rfl) (by kernel_rfl) (by kernel_rfl) (fun _ _ _ h => h) HF.out rfl ?_ rfl rfl ?_ ?_
              rotate_left
              · intro w' hF; clear hF; go_simp; try rfl
              rotate_left
              · simp only [Act.put]; exact rfl
              refine Calm.take (i := 10) (v := ?_) (a' := ?_) (l' := #[true, true, true, true, true, true, true, true, true, true, true, false, true, false, false, false]) (d := some 54) rfl (by kernel_rfl) (by kernel_rfl) (by kernel_rfl) (by kernel_rfl) (fun _ _ _ h => h) HF.out rfl ?_ rfl rfl ?_ ?_
              rotate_left
              · intro w' hF; clear hF; go_simp; try rfl
              rotate_left
              · simp only [Act.put]; exact rfl
              refine Calm.one (i := 11) (l' := #[true, true, true, true, true, true, true, true, true, true, true, true, true, false, false, false]) (by kernel_rfl) rfl rfl rfl fun K hK => ?_
              go_simp
              have al := below_alloc u3 (.cells #[.bool false, .slice none 0 0] 25)
              have HF' := hide (And.intro (HF.out.1.trans ((al).mono HF.out.1.size)) (And.intro (HF.out.2.1.step (al)) (And.intro (HF.out.2.2.1.step (al)) (And.intro (HF.out.2.2.2.1.step (al)) (And.intro (HF.out.2.2.2.2.1.step (al)) (And.intro (HF.out.2.2.2.2.2.1.step (al)) (And.intro (HF.out.2.2.2.2.2.2.1.step (al)) (And.intro (HF.out.2.2.2.2.2.2.2.1.step (al)) (And.intro (HF.out.2.2.2.2.2.2.2.2.1.below (al)) (And.intro (HF.out.2.2.2.2.2.2.2.2.2.1.below (al)) (And.intro (HF.out.2.2.2.2.2.2.2.2.2.2.1.below (al)) (HF.out.2.2.2.2.2.2.2.2.2.2.2.below (al)))))))))))))
              have BXq := hide (Box.new u3 (.bool false) (.slice none 0 0))
              replace TV := hide (TV.out.below (al))
              replace TW := hide (TW.out.below (al))
              have LTrq := hide (BXr.out.lt)
              replace BXr := hide (BXr.out.step al)
              have LT1q := hide (HF.out.2.1.lt)
              have LT2q := hide (HF.out.2.2.1.lt)
              have LT3q := hide (HF.out.2.2.2.1.lt)
              have LT4q := hide (HF.out.2.2.2.2.1.lt)
              have LT5q := hide (HF.out.2.2.2.2.2.1.lt)
              have LT6q := hide (HF.out.2.2.2.2.2.2.1.lt)
              have LT7q := hide (HF.out.2.2.2.2.2.2.2.1.lt)
              have GEq := hide (HF.out.1.size)
              refine hK _ _ (fun _ => HF'.out) ?_
              clear hK K HF al
              have HF := hide HF'.out
              clear HF'
              generalize u3.alloc (.cells #[.bool false, .slice none 0 0] 25) = wzq at *
              generalize u3.heap.size = gq at *
              refine Calm.one (i := 13) (l' := #[true, true, true, true, true, true, true, true, true, true, true, true, true, true, false, false]) (by kernel_rfl) rfl rfl rfl fun K hK => ?_
              clear LTS
              have LTS := hide (And.intro (LT1q.out) (And.intro (LT2q.out) (And.intro (LT3q.out) (And.intro (LT4q.out) (And.intro (LT5q.out) (And.intro (LT6q.out) (And.intro (LT7q.out) (And.intro (LT1r.out) (And.intro (LT2r.out) (And.intro (LT3r.out) (And.intro (LT4r.out) (And.intro (LT5r.out) (And.intro (LT6r.out) (And.intro (LT7r.out) ((show gq ≠ gr by first | exact Nat.ne_of_lt LTqr.out | exact Nat.ne_of_gt LTrq.out))))))))))))))))
              have hc0 := BXq.out.cell0
              have hc1 := BXq.out.cell1
              have hf0 := BXq.out.free 0
              have hf1 := BXq.out.free 1
              go_simp
              have HF' := hide (And.intro (below_put HF.out.1 (show w.heap.size ≤ gq by have hx := LTS.out; omega) (.bool sv) (.slice mv nv cv)) (And.intro (HF.out.2.1.other (C := gq) (by have hx := LTS.out; omega) (.bool sv) (.slice mv nv cv)) (And.intro (HF.out.2.2.1.other (C := gq) (by have hx := LTS.out; omega) (.bool sv) (.slice mv nv cv)) (And.intro (HF.out.2.2.2.1.other (C := gq) (by have hx := LTS.out; omega) (.bool sv) (.slice mv nv cv)) (And.intro (HF.out.2.2.2.2.1.other (C := gq) (by have hx := LTS.out; omega) (.bool sv) (.slice mv nv cv)) (And.intro (HF.out.2.2.2.2.2.1.other (C := gq) (by have hx := LTS.out; omega) (.bool sv) (.slice mv nv cv)) (And.intro (HF.out.2.2.2.2.2.2.1.other (C := gq) (by have hx := LTS.out; omega) (.bool sv) (.slice mv nv cv)) (And.intro (HF.out.2.2.2.2.2.2.2.1.other (C := gq) (by have hx := LTS.out; omega) (.bool sv) (.slice mv nv cv)) (And.intro (HF.out.2.2.2.2.2.2.2.2.1.keep (BXq.out.keeps (by simp) (by simp) (.bool sv) (.slice mv nv cv))) (And.intro (HF.out.2.2.2.2.2.2.2.2.2.1.keep (BXq.out.keeps (by simp) (by simp) (.bool sv) (.slice mv nv cv))) (And.intro (HF.out.2.2.2.2.2.2.2.2.2.2.1.keep (BXq.out.keeps (by simp) (by simp) (.bool sv) (.slice mv nv cv))) (HF.out.2.2.2.2.2.2.2.2.2.2.2.keep (BXq.out.keeps (by simp) (by simp) (.bool sv) (.slice mv nv cv))))))))))))))
              replace TV := hide (TV.out.keep (BXq.out.keeps (by simp) (by simp) (.bool sv) (.slice mv nv cv)))
              replace TW := hide (TW.out.keep (BXq.out.keeps (by simp) (by simp) (.bool sv) (.slice mv nv cv)))
              replace BXr := hide (BXr.out.other (C := gq) (by have hx := LTS.out; omega) (.bool sv) (.slice mv nv cv))
              replace BXq := hide (BXq.out.put (.bool sv) (.slice mv nv cv))
              refine hK _ _ (fun _ => HF'.out) ?_
              clear hK K HF hc0 hf0 hc1 hf1
              have HF := hide HF'.out
              clear HF'
              generalize ((wzq.setCell ⟨gq, 0, none⟩ (.bool sv)).setCell ⟨gq, 1, none⟩ (.slice mv nv cv)) = ws1 at *
              refine Calm.one (i := 14) (l' := #[true, true, true, true, true, true, true, true, true, true, true, true, true, true, true, false]) (by kernel_rfl) rfl rfl rfl fun K hK => ?_
              have hc0 := BXr.out.cell0
              have hc1 := BXr.out.cell1
              have hf0 := BXr.out.free 0
              have hf1 := BXr.out.free 1
              go_simp
              have HF' := hide (And.intro (below_put HF.out.1 (show w.heap.size ≤ gr by have hx := LTS.out; omega) (.bool sw) (.slice mw nw cw)) (And.intro (HF.out.2.1.other (C := gr) (by have hx := LTS.out; omega) (.bool sw) (.slice mw nw cw)) (And.intro (HF.out.2.2.1.other (C := gr) (by have hx := LTS.out; omega) (.bool sw) (.slice mw nw cw)) (And.intro (HF.out.2.2.2.1.other (C := gr) (by have hx := LTS.out; omega) (.bool sw) (.slice mw nw cw)) (And.intro (HF.out.2.2.2.2.1.other (C := gr) (by have hx := LTS.out; omega) (.bool sw) (.slice mw nw cw)) (And.intro (HF.out.2.2.2.2.2.1.other (C := gr) (by have hx := LTS.out; omega) (.bool sw) (.slice mw nw cw)) (And.intro (HF.out.2.2.2.2.2.2.1.other (C := gr) (by have hx := LTS.out; omega) (.bool sw) (.slice mw nw cw)) (And.intro (HF.out.2.2.2.2.2.2.2.1.other (C := gr) (by have hx := LTS.out; omega) (.bool sw) (.slice mw nw cw)) (And.intro (HF.out.2.2.2.2.2.2.2.2.1.keep (BXr.out.keeps (by simp) (by simp) (.bool sw) (.slice mw nw cw))) (And.intro (HF.out.2.2.2.2.2.2.2.2.2.1.keep (BXr.out.keeps (by simp) (by simp) (.bool sw) (.slice mw nw cw))) (And.intro (HF.out.2.2.2.2.2.2.2.2.2.2.1.keep (BXr.out.keeps (by simp) (by simp) (.bool sw) (.slice mw nw cw))) (HF.out.2.2.2.2.2.2.2.2.2.2.2.keep (BXr.out.keeps (by simp) (by simp) (.bool sw) (.slice mw nw cw))))))))))))))
              replace TV := hide (TV.out.keep (BXr.out.keeps (by simp) (by simp) (.bool sw) (.slice mw nw cw)))
              replace TW := hide (TW.out.keep (BXr.out.keeps (by simp) (by simp) (.bool sw) (.slice mw nw cw)))
              replace BXq := hide (BXq.out.other (C := gr) (by have hx := LTS.out; omega) (.bool sw) (.slice mw nw cw))
              replace BXr := hide (BXr.out.put (.bool sw) (.slice mw nw cw))
              refine hK _ _ (fun _ => HF'.out) ?_
              clear hK K HF hc0 hf0 hc1 hf1
              have HF := hide HF'.out
              clear HF'
              generalize ((ws1.setCell ⟨gr, 0, none⟩ (.bool sw)).setCell ⟨gr, 1, none⟩ (.slice mw nw cw)) = ws2 at *
              refine Calm.take (i := 15) (v := ?_) (a' := ?_) (l' := #[true, true, true, true, true, true, true, true, true, true, true, true, true, true, true, true]) (d := some 14) rfl (by kernel_rfl) (by kernel_rfl) (by kernel_rfl) (by kernel_rfl) (fun _ _ _ h => h) HF.out rfl ?_ rfl rfl ?_ ?_
              rotate_left
              · intro w' hF; clear hF; go_simp; try rfl
              rotate_left
              · simp only [Act.put]; exact rfl
              refine Calm.done (by kernel_rfl) ?_
              go_wp2
              go_meet
              case rel => exact ⟨gq, sv, mv, nv, cv, rfl, (by have hx := LTS.out; omega), ⟨HF.out.1, HF.out.2.2.2.1, HF.out.2.2.2.2.1, HF.out.2.2.2.2.2.1, HF.out.2.2.2.2.2.2.1, HF.out.2.2.2.2.2.2.2.1, HF.out.2.2.2.2.2.2.2.2.2.2.1, HF.out.2.2.2.2.2.2.2.2.2.2.2⟩, BXq.out, TV.out⟩
            · go_simp
              have al := below_alloc u2 (.cells #[.bool false, .slice none 0 0] 25)
              have HF' := hide (And.intro (HF.out.1.trans ((al).mono HF.out.1.size)) (And.intro (HF.out.2.1.step (al)) (And.intro (HF.out.2.2.1.step (al)) (And.intro (HF.out.2.2.2.1.step (al)) (And.intro (HF.out.2.2.2.2.1.step (al)) (And.intro (HF.out.2.2.2.2.2.1.step (al)) (And.intro (HF.out.2.2.2.2.2.2.1.step (al)) (And.intro (HF.out.2.2.2.2.2.2.2.1.step (al)) (And.intro (HF.out.2.2.2.2.2.2.2.2.1.below (al)) (And.intro (HF.out.2.2.2.2.2.2.2.2.2.1.below (al)) (And.intro (HF.out.2.2.2.2.2.2.2.2.2.2.1.below (al)) (HF.out.2.2.2.2.2.2.2.2.2.2.2.below (al)))))))))))))
              have BXq := hide (Box.new u2 (.bool false) (.slice none 0 0))
              replace T2 := hide (T2.out.below (al))
              have LTrq := hide (BXr.out.lt)
              replace BXr := hide (BXr.out.step al)
              have LT1q := hide (HF.out.2.1.lt)
              have LT2q := hide (HF.out.2.2.1.lt)
              have LT3q := hide (HF.out.2.2.2.1.lt)
              have LT4q := hide (HF.out.2.2.2.2.1.lt)
              have LT5q := hide (HF.out.2.2.2.2.2.1.lt)
              have LT6q := hide (HF.out.2.2.2.2.2.2.1.lt)
              have LT7q := hide (HF.out.2.2.2.2.2.2.2.1.lt)
              have GEq := hide (HF.out.1.size)
              refine hK _ _ (fun _ => HF'.out) ?_
              clear hK K HF al
              have HF := hide HF'.out
              clear HF'
              generalize u2.alloc (.cells #[.bool false, .slice none 0 0] 25) = wzq at *
              generalize u2.heap.size = gq at *
              refine Calm.one (i := 6) (l' := #[true, true, true, true, true, true, true, false, false, false, false, true, true, false, false, false]) (by kernel_rfl) rfl rfl rfl fun K hK => ?_
              go_simp
              refine (idivmod_any _ _ (d - (u % (y / d)) * x) y _ T2.out HF.out.2.2.2.2.2.2.2.2.2.1 (SzI.len (SzI.sub SGG.out (SzI.mul SN.out SX.out)) (by have := HK.out; omega)) (SzI.len SY.out (by have := HK.out; omega)) HY.out).mono ?_
              rintro e u3 ⟨a, b, rfl, na, nb, hb⟩
              obtain ⟨sv, mv, nv, cv, rfl, na⟩ := na.cells
              obtain ⟨sw, mw, nw, cw, rfl, nb⟩ := nb.cells
              clear T2
              replace BXr := hide (BXr.out.step hb)
              replace BXq := hide (BXq.out.step hb)
              have HF' := hide (And.intro (HF.out.1.trans ((hb).mono HF.out.1.size)) (And.intro (HF.out.2.1.step (hb)) (And.intro (HF.out.2.2.1.step (hb)) (And.intro (HF.out.2.2.2.1.step (hb)) (And.intro (HF.out.2.2.2.2.1.step (hb)) (And.intro (HF.out.2.2.2.2.2.1.step (hb)) (And.intro (HF.out.2.2.2.2.2.2.1.step (hb)) (And.intro (HF.out.2.2.2.2.2.2.2.1.step (hb)) (And.intro (HF.out.2.2.2.2.2.2.2.2.1.below (hb)) (And.intro (HF.out.2.2.2.2.2.2.2.2.2.1.below (hb)) (And.intro (HF.out.2.2.2.2.2.2.2.2.2.2.1.below (hb)) (HF.out.2.2.2.2.2.2.2.2.2.2.2.below (hb)))))))))))))
              have TV := hide (na)
              have TW := hide (nb)
              refine hK _ _ (fun _ => HF'.out) ?_
              clear hK K HF hb na nb
              have HF := hide HF'.out
              clear HF'
              refine Calm.take (i := 7) (v := ?_) (a' := ?_) (l' := #[true, true, true, true, true, true, true, true, false, false, false, true, true, false, false, false]) (d := some 44) rfl (by kernel_rfl) (by kernel_rfl) (by kernel_rfl) (by kernel_rfl) (fun _ _ _ h => h) HF.out rfl ?_ rfl rfl ?_ ?_
              rotate_left
              · intro w' hF; clear hF; go_simp; try rfl
              rotate_left
              · simp only [Act.put]; exact rfl
              refine Calm.take (i := 8) (v := ?_) (a' := ?_) (l' := #[true, true, true, true, true, true, true, true, true, false, false, true, true, false, false, false]) (d := some 52) rfl (by kernel_rfl) (by kernel_rfl) (by kernel_rfl) (by kernel_rfl) (fun _ _ _ h => h) HF.out rfl ?_ rfl rfl ?_ ?_
              rotate_left
              · intro w' hF; clear hF; go_simp; try rfl
              rotate_left
              · simp only [Act.put]; exact rfl
              refine Calm.take (i := 9) (v := ?_) (a' := ?_) (l' := #[true, true, true, true, true, true, true, true, true, true, false, true, true, false, false, false]) (d := some 53) rfl (by kernel_rfl) (by kernel_rfl) (by kernel_rfl) (by kernel_rfl) (fun _ _ _ h => h) HF.out rfl ?_ rfl rfl ?_ ?_
              rotate_left
              · intro w' hF; clear hF; go_simp; try rfl
              rotate_left
              · simp only [Act.put]; exact rfl
              refine Calm.take (i := 10) (v := ?_) (a' := ?_) (l' := #[true, true, true, true, true, true, true, true, true, true, true, true, true, false, false, false]) (d := some 54) rfl (by kernel_rfl) (by kernel_rfl) (by kernel_rfl) (by kernel_rfl) (fun _ _ _ h => h) HF.out rfl ?_ rfl rfl ?_ ?_
              rotate_left
              · intro w' hF; clear hF; go_simp; try rfl
              rotate_left
              · simp only [Act.put]; exact rfl
              refine Calm.one (i := 13) (l' := #[true, true, true, true, true, true, true, true, true, true, true, true, true, true, false, false]) (by kernel_rfl) rfl rfl rfl fun K hK => ?_
              clear LTS
              have LTS := hide (And.intro (LT1q.out) (And.intro (LT2q.out) (And.intro (LT3q.out) (And.intro (LT4q.out) (And.intro (LT5q.out) (And.intro (LT6q.out) (And.intro (LT7q.out) (And.intro (LT1r.out) (And.intro (LT2r.out) (And.intro (LT3r.out) (And.intro (LT4r.out) (And.intro (LT5r.out) (And.intro (LT6r.out) (And.intro (LT7r.out) ((show gq ≠ gr by first | exact Nat.ne_of_lt LTqr.out | exact Nat.ne_of_gt LTrq.out))))))))))))))))
              have hc0 := BXq.out.cell0
              have hc1 := BXq.out.cell1
              have hf0 := BXq.out.free 0
              have hf1 := BXq.out.free 1
              go_simp
              have HF' := hide (And.intro (below_put HF.out.1 (show w.heap.size ≤ gq by have hx := LTS.out; omega) (.bool sv) (.slice mv nv cv)) (And.intro (HF.out.2.1.other (C := gq) (by have hx := LTS.out; omega) (.bool sv) (.slice mv nv cv)) (And.intro (HF.out.2.2.1.other (C := gq) (by have hx := LTS.out; omega) (.bool sv) (.slice mv nv cv)) (And.intro (HF.out.2.2.2.1.other (C := gq) (by have hx := LTS.out; omega) (.bool sv) (.slice mv nv cv)) (And.intro (HF.out.2.2.2.2.1.other (C := gq) (by have hx := LTS.out; omega) (.bool sv) (.slice mv nv cv)) (And.intro (HF.out.2.2.2.2.2.1.other (C := gq) (by have hx := LTS.out; omega) (.bool sv) (.slice mv nv cv)) (And.intro (HF.out.2.2.2.2.2.2.1.other (C := gq) (by have hx := LTS.out; omega) (.bool sv) (.slice mv nv cv)) (And.intro (HF.out.2.2.2.2.2.2.2.1.other (C := gq) (by have hx := LTS.out; omega) (.bool sv) (.slice mv nv cv)) (And.intro (HF.out.2.2.2.2.2.2.2.2.1.keep (BXq.out.keeps (by simp) (by simp) (.bool sv) (.slice mv nv cv))) (And.intro (HF.out.2.2.2.2.2.2.2.2.2.1.keep (BXq.out.keeps (by simp) (by simp) (.bool sv) (.slice mv nv cv))) (And.intro (HF.out.2.2.2.2.2.2.2.2.2.2.1.keep (BXq.out.keeps (by simp) (by simp) (.bool sv) (.slice mv nv cv))) (HF.out.2.2.2.2.2.2.2.2.2.2.2.keep (BXq.out.keeps (by simp) (by simp) (.bool sv) (.slice mv nv cv))))))))))))))
              replace TV := hide (TV.out.keep (BXq.out.keeps (by simp) (by simp) (.bool sv) (.slice mv nv cv)))
              replace TW := hide (TW.out.keep (BXq.out.keeps (by simp) (by simp) (.bool sv) (.slice mv nv cv)))
              replace BXr := hide (BXr.out.other (C := gq) (by have hx := LTS.out; omega) (.bool sv) (.slice mv nv cv))
              replace BXq := hide (BXq.out.put (.bool sv) (.slice mv nv cv))
              refine hK _ _ (fun _ => HF'.out) ?_
              clear hK K HF hc0 hf0 hc1 hf1
              have HF := hide HF'.out
              clear HF'
              generalize ((u3.setCell ⟨gq, 0, none⟩ (.bool sv)).setCell ⟨gq, 1, none⟩ (.slice mv nv cv)) = ws1 at *
              refine Calm.one (i := 14) (l' := #[true, true, true, true, true, true, true, true, true, true, true, true, true, true, true, false]) (by kernel_rfl) rfl rfl rfl fun K hK => ?_
              have hc0 := BXr.out.cell0
              have hc1 := BXr.out.cell1
              have hf0 := BXr.out.free 0
              have hf1 := BXr.out.free 1
              go_simp
              have HF' := hide (And.intro (below_put HF.out.1 (show w.heap.size ≤ gr by have hx := LTS.out; omega) (.bool sw) (.slice mw nw cw)) (And.intro (HF.out.2.1.other (C := gr) (by have hx := LTS.out; omega) (.bool sw) (.slice mw nw cw)) (And.intro (HF.out.2.2.1.other (C := gr) (by have hx := LTS.out; omega) (.bool sw) (.slice mw nw cw)) (And.intro (HF.out.2.2.2.1.other (C := gr) (by have hx := LTS.out; omega) (.bool sw) (.slice mw nw cw)) (And.intro (HF.out.2.2.2.2.1.other (C := gr) (by have hx := LTS.out; omega) (.bool sw) (.slice mw nw cw)) (And.intro (HF.out.2.2.2.2.2.1.other (C := gr) (by have hx := LTS.out; omega) (.bool sw) (.slice mw nw cw)) (And.intro (HF.out.2.2.2.2.2.2.1.other (C := gr) (by have hx := LTS.out; omega) (.bool sw) (.slice mw nw cw)) (And.intro (HF.out.2.2.2.2.2.2.2.1.other (C := gr) (by have hx := LTS.out; omega) (.bool sw) (.slice mw nw cw)) (And.intro (HF.out.2.2.2.2.2.2.2.2.1.keep (BXr.out.keeps (by simp) (by simp) (.bool sw) (.slice mw nw cw))) (And.intro (HF.out.2.2.2.2.2.2.2.2.2.1.keep (BXr.out.keeps (by simp) (by simp) (.bool sw) (.slice mw nw cw))) (And.intro (HF.out.2.2.2.2.2.2.2.2.2.2.1.keep (BXr.out.keeps (by simp) (by simp) (.bool sw) (.slice mw nw cw))) (HF.out.2.2.2.2.2.2.2.2.2.2.2.keep (BXr.out.keeps (by simp) (by simp) (.bool sw) (.slice mw nw cw))))))))))))))
              replace TV := hide (TV.out.keep (BXr.out.keeps (by simp) (by simp) (.bool sw) (.slice mw nw cw)))
              replace TW := hide (TW.out.keep (BXr.out.keeps (by simp) (by simp) (.bool sw) (.slice mw nw cw)))
              replace BXq := hide (BXq.out.other (C := gr) (by have hx := LTS.out; omega) (.bool sw) (.slice mw nw cw))
              replace BXr := hide (BXr.out.put (.bool sw) (.slice mw nw cw))
              refine hK _ _ (fun _ => HF'.out) ?_
              clear hK K HF hc0 hf0 hc1 hf1
              have HF := hide HF'.out
              clear HF'
              generalize ((ws1.setCell ⟨gr, 0, none⟩ (.bool sw)).setCell ⟨gr, 1, none⟩ (.slice mw nw cw)) = ws2 at *
              refine Calm.take (i := 15) (v := ?_) (a' := ?_) (l' := #[true, true, true, true, true, true, true, true, true, true, true, true, true, true, true, true]) (d := some 14) rfl (by kernel_rfl) (by kernel_rfl) (by kernel_rfl) (by kernel_rfl) (fun _ _ _ h => h) HF.out rfl ?_ rfl rfl ?_ ?_
              rotate_left
              · intro w' hF; clear hF; go_simp; try rfl
              rotate_left
              · simp only [Act.put]; exact rfl
              refine Calm.done (by kernel_rfl) ?_
              go_wp2
              go_meet
              case rel => exact ⟨gq, sv, mv, nv, cv, rfl, (by have hx := LTS.out; omega), ⟨HF.out.1, HF.out.2.2.2.1, HF.out.2.2.2.2.1, HF.out.2.2.2.2.2.1, HF.out.2.2.2.2.2.2.1, HF.out.2.2.2.2.2.2.2.1, HF.out.2.2.2.2.2.2.2.2.2.2.1, HF.out.2.2.2.2.2.2.2.2.2.2.2⟩, BXq.out, TV.out⟩
          · go_simp
            have al := below_alloc wzr (.cells #[.bool false, .slice none 0 0] 25)
            have HF' := hide (And.intro (HF.out.1.trans ((al).mono HF.out.1.size)) (And.intro (HF.out.2.1.step (al)) (And.intro (HF.out.2.2.1.step (al)) (And.intro (HF.out.2.2.2.1.step (al)) (And.intro (HF.out.2.2.2.2.1.step (al)) (And.intro (HF.out.2.2.2.2.2.1.step (al)) (And.intro (HF.out.2.2.2.2.2.2.1.step (al)) (And.intro (HF.out.2.2.2.2.2.2.2.1.step (al)) (And.intro (HF.out.2.2.2.2.2.2.2.2.1.below (al)) (And.intro (HF.out.2.2.2.2.2.2.2.2.2.1.below (al)) (And.intro (HF.out.2.2.2.2.2.2.2.2.2.2.1.below (al)) (HF.out.2.2.2.2.2.2.2.2.2.2.2.below (al)))))))))))))
            have BXq := hide (Box.new wzr (.bool false) (.slice none 0 0))
            replace T1 := hide (T1.out.below (al))
            have LTrq := hide (BXr.out.lt)
            replace BXr := hide (BXr.out.step al)
            have LT1q := hide (HF.out.2.1.lt)
            have LT2q := hide (HF.out.2.2.1.lt)
            have LT3q := hide (HF.out.2.2.2.1.lt)
            have LT4q := hide (HF.out.2.2.2.2.1.lt)
            have LT5q := hide (HF.out.2.2.2.2.2.1.lt)
            have LT6q := hide (HF.out.2.2.2.2.2.2.1.lt)
            have LT7q := hide (HF.out.2.2.2.2.2.2.2.1.lt)
            have GEq := hide (HF.out.1.size)
            refine hK _ _ (fun _ => HF'.out) ?_
            clear hK K HF al
            have HF := hide HF'.out
            clear HF'
            generalize wzr.alloc (.cells #[.bool false, .slice none 0 0] 25) = wzq at *
            generalize wzr.heap.size = gq at *
            refine Calm.one (i := 4) (l' := #[true, true, true, true, true, true, false, false, false, false, false, true, true, false, false, false]) (by kernel_rfl) rfl rfl rfl fun K hK => ?_
            go_simp
            refine (isub_any _ _ d ((u % (y / d)) * x) _ HF.out.2.2.2.2.2.2.2.2.2.2.1 T1.out (SzI.len SGG.out (by have := HK.out; omega)) (SzI.len (SzI.mul SN.out SX.out) (by have := HK.out; omega))).mono ?_
            rintro e u2 ⟨v, rfl, n, hb⟩
            clear T1
            replace BXr := hide (BXr.out.step hb)
            replace BXq := hide (BXq.out.step hb)
            have HF' := hide (And.intro (HF.out.1.trans ((hb).mono HF.out.1.size)) (And.intro (HF.out.2.1.step (hb)) (And.intro (HF.out.2.2.1.step (hb)) (And.intro (HF.out.2.2.2.1.step (hb)) (And.intro (HF.out.2.2.2.2.1.step (hb)) (And.intro (HF.out.2.2.2.2.2.1.step (hb)) (And.intro (HF.out.2.2.2.2.2.2.1.step (hb)) (And.intro (HF.out.2.2.2.2.2.2.2.1.step (hb)) (And.intro (HF.out.2.2.2.2.2.2.2.2.1.below (hb)) (And.intro (HF.out.2.2.2.2.2.2.2.2.2.1.below (hb)) (And.intro (HF.out.2.2.2.2.2.2.2.2.2.2.1.below (hb)) (HF.out.2.2.2.2.2.2.2.2.2.2.2.below (hb)))))))))))))
            have T2 := hide (n)
            refine hK _ _ (fun _ => HF'.out) ?_
            clear hK K HF hb n
            have HF := hide HF'.out
            clear HF'
            refine Calm.one (i := 6) (l' := #[true, true, true, true, true, true, true, false, false, false, false, true, true, false, false, false]) (by kernel_rfl) rfl rfl rfl fun K hK => ?_
            go_simp
            refine (idivmod_any _ _ (d - (u % (y / d)) * x) y _ T2.out HF.out.2.2.2.2.2.2.2.2.2.1 (SzI.len (SzI.sub SGG.out (SzI.mul SN.out SX.out)) (by have := HK.out; omega)) (SzI.len SY.out (by have := HK.out; omega)) HY.out).mono ?_
            rintro e u3 ⟨a, b, rfl, na, nb, hb⟩
            obtain ⟨sv, mv, nv, cv, rfl, na⟩ := na.cells
            obtain ⟨sw, mw, nw, cw, rfl, nb⟩ := nb.cells
            clear T2
            replace BXr := hide (BXr.out.step hb)
            replace BXq := hide (BXq.out.step hb)
            have HF' := hide (And.intro (HF.out.1.trans ((hb).mono HF.out.1.size)) (And.intro (HF.out.2.1.step (hb)) (And.intro (HF.out.2.2.1.step (hb)) (And.intro (HF.out.2.2.2.1.step (hb)) (And.intro (HF.out.2.2.2.2.1.step (hb)) (And.intro (HF.out.2.2.2.2.2.1.step (hb)) (And.intro (HF.out.2.2.2.2.2.2.1.step (hb)) (And.intro (HF.out.2.2.2.2.2.2.2.1.step (hb)) (And.intro (HF.out.2.2.2.2.2.2.2.2.1.below (hb)) (And.intro (HF.out.2.2.2.2.2.2.2.2.2.1.below (hb)) (And.intro (HF.out.2.2.2.2.2.2.2.2.2.2.1.below (hb)) (HF.out.2.2.2.2.2.2.2.2.2.2.2.below (hb)))))))))))))
            have TV := hide (na)
            have TW := hide (nb)
            refine hK _ _ (fun _ => HF'.out) ?_
            clear hK K HF hb na nb
            have HF := hide HF'.out
            clear HF'
            refine Calm.take (i := 7) (v := ?_) (a' := ?_) (l' := #[true, true, true, true, true, true, true, true, false, false, false, true, true, false, false, false]) (d := some 44) rfl (by kernel_rfl) (by kernel_rfl) (by kernel_rfl) (by kernel_rfl) (fun _ _ _ h => h) HF.out rfl ?_ rfl rfl ?_ ?_
            rotate_left
            · intro w' hF; clear hF; go_simp; try rfl
            rotate_left
            · simp only [Act.put]; exact rfl
            refine Calm.take (i := 8) (v := ?_) (a' := ?_) (l' := #[true, true, true, true, true, true, true, true, true, false, false, true, true, false, false, false]) (d := some 52) rfl (by kernel_rfl) (by kernel_rfl) (by kernel_rfl) (by kernel_rfl) (fun _ _ _ h => h) HF.out rfl ?_ rfl rfl ?_ ?_
            rotate_left
            · intro w' hF; clear hF; go_simp; try rfl
            rotate_left
            · simp only [Act.put]; exact rfl
            refine Calm.take (i := 9) (v := ?_) (a' := ?_) (l' := #[true, true, true, true, true, true, true, true, true, true, false, true, true, false, false, false]) (d := some 53) rfl (by kernel_rfl) (by kernel_rfl) (by kernel_rfl) (by kernel_rfl) (fun _ _ _ h => h) HF.out rfl ?_ rfl rfl ?_ ?_
            rotate_left
            · intro w' hF; clear hF; go_simp; try rfl
            rotate_left
            · simp only [Act.put]; exact rfl
            refine Calm.take (i := 10) (v := ?_) (a' := ?_) (l' := #[true, true, true, true, true, true, true, true, true, true, true, true, true, false, false, false]) (d := some 54) rfl (by kernel_rfl) (by kernel_rfl) (by kernel_rfl) (by kernel_rfl) (fun _ _ _ h => h) HF.out rfl ?_ rfl rfl ?_ ?_
            rotate_left
            · intro w' hF; clear hF; go_simp; try rfl
            rotate_left
            · simp only [Act.put]; exact rfl
            refine Calm.one (i := 13) (l' := #[true, true, true, true, true, true, true, true, true, true, true, true, true, true, false, false]) (by kernel_rfl) rfl rfl rfl fun K hK => ?_
            clear LTS
            have LTS := hide (And.intro (LT1q.out) (And.intro (LT2q.out) (And.intro (LT3q.out) (And.intro (LT4q.out) (And.intro (LT5q.out) (And.intro (LT6q.out) (And.intro (LT7q.out) (And.intro (LT1r.out) (And.intro (LT2r.out) (And.intro (LT3r.out) (And.intro (LT4r.out) (And.intro (LT5r.out) (And.intro (LT6r.out) (And.intro (LT7r.out) ((show gq ≠ gr by first | exact Nat.ne_of_lt LTqr.out | exact Nat.ne_of_gt LTrq.out))))))))))))))))
            have hc0 := BXq.out.cell0
            have hc1 := BXq.out.cell1
            have hf0 := BXq.out.free 0
            have hf1 := BXq.out.free 1
            go_simp
            have HF' := hide (And.intro (below_put HF.out.1 (show w.heap.size ≤ gq by have hx := LTS.out; omega) (.bool sv) (.slice mv nv cv)) (And.intro (HF.out.2.1.other (C := gq) (by have hx := LTS.out; omega) (.bool sv) (.slice mv nv cv)) (And.intro (HF.out.2.2.1.other (C := gq) (by have hx := LTS.out; omega) (.bool sv) (.slice mv nv cv)) (And.intro (HF.out.2.2.2.1.other (C := gq) (by have hx := LTS.out; omega) (.bool sv) (.slice mv nv cv)) (And.intro (HF.out.2.2.2.2.1.other (C := gq) (by have hx := LTS.out; omega) (.bool sv) (.slice mv nv cv)) (And.intro (HF.out.2.2.2.2.2.1.other (C := gq) (by have hx := LTS.out; omega) (.bool sv) (.slice mv nv cv)) (And.intro (HF.out.2.2.2.2.2.2.1.other (C := gq) (by have hx := LTS.out; omega) (.bool sv) (.slice mv nv cv)) (And.intro (HF.out.2.2.2.2.2.2.2.1.other (C := gq) (by have hx := LTS.out; omega) (.bool sv) (.slice mv nv cv)) (And.intro (HF.out.2.2.2.2.2.2.2.2.1.keep (BXq.out.keeps (by simp) (by simp) (.bool sv) (.slice mv nv cv))) (And.intro (HF.out.2.2.2.2.2.2.2.2.2.1.keep (BXq.out.keeps (by simp) (by simp) (.bool sv) (.slice mv nv cv))) (And.intro (HF.out.2.2.2.2.2.2.2.2.2.2.1.keep (BXq.out.keeps (by simp) (by simp) (.bool sv) (.slice mv nv cv))) (HF.out.2.2.2.2.2.2.2.2.2.2.2.keep (BXq.out.keeps (by simp) (by simp) (.bool sv) (.slice mv nv cv))))))))))))))
            replace TV := hide (TV.out.keep (BXq.out.keeps (by simp) (by simp) (.bool sv) (.slice mv nv cv)))
            replace TW := hide (TW.out.keep (BXq.out.keeps (by simp) (by simp) (.bool sv) (.slice mv nv cv)))
            replace BXr := hide (BXr.out.other (C := gq) (by have hx := LTS.out; omega) (.bool sv) (.slice mv nv cv))
            replace BXq := hide (BXq.out.put (.bool sv) (.slice mv nv cv))
            refine hK _ _ (fun _ => HF'.out) ?_
            clear hK K HF hc0 hf0 hc1 hf1
            have HF := hide HF'.out
            clear HF'
            generalize ((u3.setCell ⟨gq, 0, none⟩ (.bool sv)).setCell ⟨gq, 1, none⟩ (.slice mv nv cv)) = ws1 at *
            refine Calm.one (i := 14) (l' := #[true, true, true, true, true, true, true, true, true, true, true, true, true, true, true, false]) (by kernel_rfl) rfl rfl rfl fun K hK => ?_
            have hc0 := BXr.out.cell0
            have hc1 := BXr.out.cell1
            have hf0 := BXr.out.free 0
            have hf1 := BXr.out.free 1
            go_simp
            have HF' := hide (And.intro (below_put HF.out.1 (show w.heap.size ≤ gr by have hx := LTS.out; omega) (.bool sw) (.slice mw nw cw)) (And.intro (HF.out.2.1.other (C := gr) (by have hx := LTS.out; omega) (.bool sw) (.slice mw nw cw)) (And.intro (HF.out.2.2.1.other (C := gr) (by have hx := LTS.out; omega) (.bool sw) (.slice mw nw cw)) (And.intro (HF.out.2.2.2.1.other (C := gr) (by have hx := LTS.out; omega) (.bool sw) (.slice mw nw cw)) (And.intro (HF.out.2.2.2.2.1.other (C := gr) (by have hx := LTS.out; omega) (.bool sw) (.slice mw nw cw)) (And.intro (HF.out.2.2.2.2.2.1.other (C := gr) (by have hx := LTS.out; omega) (.bool sw) (.slice mw nw cw)) (And.intro (HF.out.2.2.2.2.2.2.1.other (C := gr) (by have hx := LTS.out; omega) (.bool sw) (.slice mw nw cw)) (And.intro (HF.out.2.2.2.2.2.2.2.1.other (C := gr) (by have hx := LTS.out; omega) (.bool sw) (.slice mw nw cw)) (And.intro (HF.out.2.2.2.2.2.2.2.2.1.keep (BXr.out.keeps (by simp) (by simp) (.bool sw) (.slice mw nw cw))) (And.intro (HF.out.2.2.2.2.2.2.2.2.2.1.keep (BXr.out.keeps (by simp) (by simp) (.bool sw) (.slice mw nw cw))) (And.intro (HF.out.2.2.2.2.2.2.2.2.2.2.1.keep (BXr.out.keeps (by simp) (by simp) (.bool sw) (.slice mw nw cw))) (HF.out.2.2.2.2.2.2.2.2.2.2.2.keep (BXr.out.keeps (by simp) (by simp) (.bool sw) (.slice mw nw cw))))))))))))))
            replace TV := hide (TV.out.keep (BXr.out.keeps (by simp) (by simp) (.bool sw) (.slice mw nw cw)))
            replace TW := hide (TW.out.keep (BXr.out.keeps (by simp) (by simp) (.bool sw) (.slice mw nw cw)))
            replace BXq := hide (BXq.out.other (C := gr) (by have hx := LTS.out; omega) (.bool sw) (.slice mw nw cw))
            replace BXr := hide (BXr.out.put (.bool sw) (.slice mw nw cw))
            refine hK _ _ (fun _ => HF'.out) ?_
            clear hK K HF hc0 hf0 hc1 hf1
            have HF := hide HF'.out
            clear HF'
            generalize ((ws1.setCell ⟨gr, 0, none⟩ (.bool sw)).setCell ⟨gr, 1, none⟩ (.slice mw nw cw)) = ws2 at *
            refine Calm.take (i := 15) (v := ?_) (a' := ?_) (l' := #[true, true, true, true, true, true, true, true, true, true, true, true, true, true, true, true]) (d := some 14) rfl (by kernel_rfl) (by kernel_rfl) (by kernel_rfl) (by kernel_rfl) (fun _ _ _ h => h) HF.out rfl ?_ rfl rfl ?_ ?_
            rotate_left
            · intro w' hF; clear hF; go_simp; try rfl
            rotate_left
            · simp only [Act.put]; exact rfl
            refine Calm.done (by kernel_rfl) ?_
            go_wp2
            go_meet
            case rel => exact ⟨gq, sv, mv, nv, cv, rfl, (by have hx := LTS.out; omega), ⟨HF.out.1, HF.out.2.2.2.1, HF.out.2.2.2.2.1, HF.out.2.2.2.2.2.1, HF.out.2.2.2.2.2.2.1, HF.out.2.2.2.2.2.2.2.1, HF.out.2.2.2.2.2.2.2.2.2.2.1, HF.out.2.2.2.2.2.2.2.2.2.2.2⟩, BXq.out, TV.out⟩
      · go_simp
        have al := below_alloc w5d (.cells #[.bool false, .slice none 0 0] 25)
        have HF' := hide (And.intro (HF.out.1.trans ((al).mono HF.out.1.size)) (And.intro (HF.out.2.1.step (al)) (And.intro (HF.out.2.2.1.step (al)) (And.intro (HF.out.2.2.2.1.step (al)) (And.intro (HF.out.2.2.2.2.1.step (al)) (And.intro (HF.out.2.2.2.2.2.1.step (al)) (And.intro (HF.out.2.2.2.2.2.2.1.step (al)) (And.intro (HF.out.2.2.2.2.2.2.2.1.step (al)) (And.intro (HF.out.2.2.2.2.2.2.2.2.1.below (al)) (And.intro (HF.out.2.2.2.2.2.2.2.2.2.1.below (al)) (And.intro (HF.out.2.2.2.2.2.2.2.2.2.2.1.below (al)) (HF.out.2.2.2.2.2.2.2.2.2.2.2.below (al)))))))))))))
        have BXq := hide (Box.new w5d (.bool false) (.slice none 0 0))
        have LT1q := hide (HF.out.2.1.lt)
        have LT2q := hide (HF.out.2.2.1.lt)
        have LT3q := hide (HF.out.2.2.2.1.lt)
        have LT4q := hide (HF.out.2.2.2.2.1.lt)
        have LT5q := hide (HF.out.2.2.2.2.2.1.lt)
        have LT6q := hide (HF.out.2.2.2.2.2.2.1.lt)
        have LT7q := hide (HF.out.2.2.2.2.2.2.2.1.lt)
        have GEq := hide (HF.out.1.size)
        refine hK _ _ (fun _ => HF'.out) ?_
        clear hK K HF al
        have HF := hide HF'.out
        clear HF'
        generalize w5d.alloc (.cells #[.bool false, .slice none 0 0] 25) = wzq at *
        generalize w5d.heap.size = gq at *
        refine Calm.two (i := 3) (j := 12) (l := #[true, true, true, true, false, true, false, false, false, false, false, true, false, false, false, false]) (l' := #[true, true, true, false, false, true, false, false, false, false, false, true, true, false, false, false]) (by kernel_rfl) rfl rfl rfl rfl rfl rfl (fun K hK => ?_) (fun K hK => ?_)
        · go_simp
          refine (imul_any _ _ (u % (y / d)) x _ HF.out.2.2.2.2.2.2.2.2.2.2.2 HF.out.2.2.2.2.2.2.2.2.1 (SzI.len SN.out (by have := HK.out; omega)) (SzI.len SX.out (by have := HK.out; omega))).mono ?_
          rintro e u1 ⟨v, rfl, n, hb⟩
          replace BXq := hide (BXq.out.step hb)
          have HF' := hide (And.intro (HF.out.1.trans ((hb).mono HF.out.1.size)) (And.intro (HF.out.2.1.step (hb)) (And.intro (HF.out.2.2.1.step (hb)) (And.intro (HF.out.2.2.2.1.step (hb)) (And.intro (HF.out.2.2.2.2.1.step (hb)) (And.intro (HF.out.2.2.2.2.2.1.step (hb)) (And.intro (HF.out.2.2.2.2.2.2.1.step (hb)) (And.intro (HF.out.2.2.2.2.2.2.2.1.step (hb)) (And.intro (HF.out.2.2.2.2.2.2.2.2.1.below (hb)) (And.intro (HF.out.2.2.2.2.2.2.2.2.2.1.below (hb)) (And.intro (HF.out.2.2.2.2.2.2.2.2.2.2.1.below (hb)) (HF.out.2.2.2.2.2.2.2.2.2.2.2.below (hb)))))))))))))
          have T1 := hide (n)
          refine hK _ _ (fun _ => HF'.out) ?_
          clear hK K HF hb n
          have HF := hide HF'.out
          clear HF'
          refine Calm.two (i := 4) (j := 12) (l := #[true, true, true, true, true, true, false, false, false, false, false, true, false, false, false, false]) (l' := #[true, true, true, true, false, true, false, false, false, false, false, true, true, false, false, false]) (by kernel_rfl) rfl rfl rfl rfl rfl rfl (fun K hK => ?_) (fun K hK => ?_)
          · go_simp
            refine (isub_any _ _ d ((u % (y / d)) * x) _ HF.out.2.2.2.2.2.2.2.2.2.2.1 T1.out (SzI.len SGG.out (by have := HK.out; omega)) (SzI.len (SzI.mul SN.out SX.out) (by have := HK.out; omega))).mono ?_
            rintro e u2 ⟨v, rfl, n, hb⟩
            clear T1
            replace BXq := hide (BXq.out.step hb)
            have HF' := hide (And.intro (HF.out.1.trans ((hb).mono HF.out.1.size)) (And.intro (HF.out.2.1.step (hb)) (And.intro (HF.out.2.2.1.step (hb)) (And.intro (HF.out.2.2.2.1.step (hb)) (And.intro (HF.out.2.2.2.2.1.step (hb)) (And.intro (HF.out.2.2.2.2.2.1.step (hb)) (And.intro (HF.out.2.2.2.2.2.2.1.step (hb)) (And.intro (HF.out.2.2.2.2.2.2.2.1.step (hb)) (And.intro (HF.out.2.2.2.2.2.2.2.2.1.below (hb)) (And.intro (HF.out.2.2.2.2.2.2.2.2.2.1.below (hb)) (And.intro (HF.out.2.2.2.2.2.2.2.2.2.2.1.below (hb)) (HF.out.2.2.2.2.2.2.2.2.2.2.2.below (hb)))))))))))))
            have T2 := hide (n)
            refine hK _ _ (fun _ => HF'.out) ?_
            clear hK K HF hb n
            have HF := hide HF'.out
            clear HF'
            refine Calm.two (i := 6) (j := 12) (l := #[true, true, true, true, true, true, true, false, false, false, false, true, false, false, false, false]) (l' := #[true, true, true, true, true, true, false, false, false, false, false, true, true, false, false, false]) (by kernel_rfl) rfl rfl rfl rfl rfl rfl (fun K hK => ?_) (fun K hK => ?_)
            · go_simp
              refine (idivmod_any _ _ (d - (u % (y / d)) * x) y _ T2.out HF.out.2.2.2.2.2.2.2.2.2.1 (SzI.len (SzI.sub SGG.out (SzI.mul SN.out SX.out)) (by have := HK.out; omega)) (SzI.len SY.out (by have := HK.out; omega)) HY.out).mono ?_
              rintro e u3 ⟨a, b, rfl, na, nb, hb⟩
              obtain ⟨sv, mv, nv, cv, rfl, na⟩ := na.cells
              obtain ⟨sw, mw, nw, cw, rfl, nb⟩ := nb.cells
              clear T2
              replace BXq := hide (BXq.out.step hb)
              have HF' := hide (And.intro (HF.out.1.trans ((hb).mono HF.out.1.size)) (And.intro (HF.out.2.1.step (hb)) (And.intro (HF.out.2.2.1.step (hb)) (And.intro (HF.out.2.2.2.1.step (hb)) (And.intro (HF.out.2.2.2.2.1.step (hb)) (And.intro (HF.out.2.2.2.2.2.1.step (hb)) (And.intro (HF.out.2.2.2.2.2.2.1.step (hb)) (And.intro (HF.out.2.2.2.2.2.2.2.1.step (hb)) (And.intro (HF.out.2.2.2.2.2.2.2.2.1.below (hb)) (And.intro (HF.out.2.2.2.2.2.2.2.2.2.1.below (hb)) (And.intro (HF.out.2.2.2.2.2.2.2.2.2.2.1.below (hb)) (HF.out.2.2.2.2.2.2.2.2.2.2.2.below (hb)))))))))))))
              have TV := hide (na)
              have TW := hide (nb)
              refine hK _ _ (fun _ => HF'.out) ?_
              clear hK K HF hb na nb
              have HF := hide HF'.out
              clear HF'
              refine Calm.take (i := 7) (v := ?_) (a' := ?_) (l' := #[true, true, true, true, true, true, true, true, false, false, false, true, false, false, false, false]) (d := some 44) rfl (by kernel_rfl) (by kernel_rfl) (by kernel_rfl) (by kernel_rfl) (fun _ _ _ h => h) HF.out rfl ?_ rfl rfl ?_ ?_
              rotate_left
              · intro w' hF; clear hF; go_simp; try rfl
              rotate_left
              · simp only [Act.put]; exact rfl
              refine Calm.take (i := 8) (v := ?_) (a' := ?_) (l' := #[true, true, true, true, true, true, true, true, true, false, false, true, false, false, false, false]) (d := some 52) rfl (by kernel_rfl) (by kernel_rfl) (by kernel_rfl) (by kernel_rfl) (fun _ _ _ h => h) HF.out rfl ?_ rfl rfl ?_ ?_
              rotate_left
              · intro w' hF; clear hF; go_simp; try rfl
              rotate_left
              · simp only [Act.put]; exact rfl
              refine Calm.take (i := 9) (v := ?_) (a' := ?_) (l' := #[true, true, true, true, true, true, true, true, true, true, false, true, false, false, false, false]) (d := some 53) rfl (by kernel_rfl) (by kernel_rfl) (by kernel_rfl) (by kernel_rfl) (fun _ _ _ h => h) HF.out rfl ?_ rfl rfl ?_ ?_
              rotate_left
              · intro w' hF; clear hF; go_simp; try rfl
              rotate_left
              · simp only [Act.put]; exact rfl
              refine Calm.take (i := 10) (v := ?_) (a' := ?_) (l' := #[true, true, true, true, true, true, true, true, true, true, true, true, false, false, false, false]) (d := some 54) rfl (by kernel_rfl) (by kernel_rfl) (by kernel_rfl) (by kernel_rfl) (fun _ _ _ h => h) HF.out rfl ?_ rfl rfl ?_ ?_
              rotate_left
              · intro w' hF; clear hF; go_simp; try rfl
              rotate_left
              · simp only [Act.put]; exact rfl
              refine Calm.one (i := 12) (l' := #[true, true, true, true, true, true, true, true, true, true, true, true, true, false, false, false]) (by kernel_rfl) rfl rfl rfl fun K hK => ?_
              go_simp
              have al := below_alloc u3 (.cells #[.bool false, .slice none 0 0] 25)
              have HF' := hide (And.intro (HF.out.1.trans ((al).mono HF.out.1.size)) (And.intro (HF.out.2.1.step (al)) (And.intro (HF.out.2.2.1.step (al)) (And.intro (HF.out.2.2.2.1.step (al)) (And.intro (HF.out.2.2.2.2.1.step (al)) (And.intro (HF.out.2.2.2.2.2.1.step (al)) (And.intro (HF.out.2.2.2.2.2.2.1.step (al)) (And.intro (HF.out.2.2.2.2.2.2.2.1.step (al)) (And.intro (HF.out.2.2.2.2.2.2.2.2.1.below (al)) (And.intro (HF.out.2.2.2.2.2.2.2.2.2.1.below (al)) (And.intro (HF.out.2.2.2.2.2.2.2.2.2.2.1.below (al)) (HF.out.2.2.2.2.2.2.2.2.2.2.2.below (al)))))))))))))
              have BXr := hide (Box.new u3 (.bool false) (.slice none 0 0))
              replace TV := hide (TV.out.below (al))
              replace TW := hide (TW.out.below (al))
              have LTqr := hide (BXq.out.lt)
              replace BXq := hide (BXq.out.step al)
              have LT1r := hide (HF.out.2.1.lt)
              have LT2r := hide (HF.out.2.2.1.lt)
              have LT3r := hide (HF.out.2.2.2.1.lt)
              have LT4r := hide (HF.out.2.2.2.2.1.lt)
              have LT5r := hide (HF.out.2.2.2.2.2.1.lt)
              have LT6r := hide (HF.out.2.2.2.2.2.2.1.lt)
              have LT7r := hide (HF.out.2.2.2.2.2.2.2.1.lt)
              have GEr := hide (HF.out.1.size)
              refine hK _ _ (fun _ => HF'.out) ?_
              clear hK K HF al
              have HF := hide HF'.out
              clear HF'
              generalize u3.alloc (.cells #[.bool false, .slice none 0 0] 25) = wzr at *
              generalize u3.heap.size = gr at *
              refine Calm.one (i := 13) (l' := #[true, true, true, true, true, true, true, true, true, true, true, true, true, true, false, false]) (by kernel_rfl) rfl rfl rfl fun K hK => ?_
              clear LTS
              have LTS := hide (And.intro (LT1q.out) (And.intro (LT2q.out) (And.intro (LT3q.out) (And.intro (LT4q.out) (And.intro (LT5q.out) (And.intro (LT6q.out) (And.intro (LT7q.out) (And.intro (LT1r.out) (And.intro (LT2r.out) (And.intro (LT3r.out) (And.intro (LT4r.out) (And.intro (LT5r.out) (And.intro (LT6r.out) (And.intro (LT7r.out) ((show gq ≠ gr by first | exact Nat.ne_of_lt LTqr.out | exact Nat.ne_of_gt LTrq.out))))))))))))))))
              have hc0 := BXq.out.cell0
              have hc1 := BXq.out.cell1
              have hf0 := BXq.out.free 0
              have hf1 := BXq.out.free 1
              go_simp
              have HF' := hide (And.intro (below_put HF.out.1 (show w.heap.size ≤ gq by have hx := LTS.out; omega) (.bool sv) (.slice mv nv cv)) (And.intro (HF.out.2.1.other (C := gq) (by have hx := LTS.out; omega) (.bool sv) (.slice mv nv cv)) (And.intro (HF.out.2.2.1.other (C := gq) (by have hx := LTS.out; omega) (.bool sv) (.slice mv nv cv)) (And.intro (HF.out.2.2.2.1.other (C := gq) (by have hx := LTS.out; omega) (.bool sv) (.slice mv nv cv)) (And.intro (HF.out.2.2.2.2.1.other (C := gq) (by have hx := LTS.out; omega) (.bool sv) (.slice mv nv cv)) (And.intro (HF.out.2.2.2.2.2.1.other (C := gq) (by have hx := LTS.out; omega) (.bool sv) (.slice mv nv cv)) (And.intro (HF.out.2.2.2.2.2.2.1.other (C := gq) (by have hx := LTS.out; omega) (.bool sv) (.slice mv nv cv)) (And.intro (HF.out.2.2.2.2.2.2.2.1.other (C := gq) (by have hx := LTS.out; omega) (.bool sv) (.slice mv nv cv)) (And.intro (HF.out.2.2.2.2.2.2.2.2.1.keep (BXq.out.keeps (by simp) (by simp) (.bool sv) (.slice mv nv cv))) (And.intro (HF.out.2.2.2.2.2.2.2.2.2.1.keep (BXq.out.keeps (by simp) (by simp) (.bool sv) (.slice mv nv cv))) (And.intro (HF.out.2.2.2.2.2.2.2.2.2.2.1.keep (BXq.out.keeps (by simp) (by simp) (.bool sv) (.slice mv nv cv))) (HF.out.2.2.2.2.2.2.2.2.2.2.2.keep (BXq.out.keeps (by simp) (by simp) (.bool sv) (.slice mv nv cv))))))))))))))
              replace TV := hide (TV.out.keep (BXq.out.keeps (by simp) (by simp) (.bool sv) (.slice mv nv cv)))
              replace TW := hide (TW.out.keep (BXq.out.keeps (by simp) (by simp) (.bool sv) (.slice mv nv cv)))
              replace BXr := hide (BXr.out.other (C := gq) (by have hx := LTS.out; omega) (.bool sv) (.slice mv nv cv))
              replace BXq := hide (BXq.out.put (.bool sv) (.slice mv nv cv))
              refine hK _ _ (fun _ => HF'.out) ?_
              clear hK K HF hc0 hf0 hc1 hf1
              have HF := hide HF'.out
              clear HF'
              generalize ((wzr.setCell ⟨gq, 0, none⟩ (.bool sv)).setCell ⟨gq, 1, none⟩ (.slice mv nv cv)) = ws1 at *
              refine Calm.one (i := 14) (l' := #[true, true, true, true, true, true, true, true, true, true, true, true, true, true, true, false]) (by kernel_rfl) rfl rfl rfl fun K hK => ?_
              have hc0 := BXr.out.cell0
              have hc1 := BXr.out.cell1
              have hf0 := BXr.out.free 0
              have hf1 := BXr.out.free 1
              go_simp
              have HF' := hide (And.intro (below_put HF.out.1 (show w.heap.size ≤ gr by have hx := LTS.out; omega) (.bool sw) (.slice mw nw cw)) (And.intro (HF.out.2.1.other (C := gr) (by have hx := LTS.out; omega) (.bool sw) (.slice mw nw cw)) (And.intro (HF.out.2.2.1.other (C := gr) (by have hx := LTS.out; omega) (.bool sw) (.slice mw nw cw)) (And.intro (HF.out.2.2.2.1.other (C := gr) (by have hx := LTS.out; omega) (.bool sw) (.slice mw nw cw)) (And.intro (HF.out.2.2.2.2.1.other (C := gr) (by have hx := LTS.out; omega) (.bool sw) (.slice mw nw cw)) (And.intro (HF.out.2.2.2.2.2.1.other (C := gr) (by have hx := LTS.out; omega) (.bool sw) (.slice mw nw cw)) (And.intro (HF.out.2.2.2.2.2.2.1.other (C := gr) (by have hx := LTS.out; omega) (.bool sw) (.slice mw nw cw)) (And.intro (HF.out.2.2.2.2.2.2.2.1.other (C := gr) (by have hx := LTS.out; omega) (.bool sw) (.slice mw nw cw)) (And.intro (HF.out.2.2.2.2.2.2.2.2.1.keep (BXr.out.keeps (by simp) (by simp) (.bool sw) (.slice mw nw cw))) (And.intro (HF.out.2.2.2.2.2.2.2.2.2.1.keep (BXr.out.keeps (by simp) (by simp) (.bool sw) (.slice mw nw cw))) (And.intro (HF.out.2.2.2.2.2.2.2.2.2.2.1.keep (BXr.out.keeps (by simp) (by simp) (.bool sw) (.slice mw nw cw))) (HF.out.2.2.2.2.2.2.2.2.2.2.2.keep (BXr.out.keeps (by simp) (by simp) (.bool sw) (.slice mw nw cw))))))))))))))
              replace TV := hide (TV.out.keep (BXr.out.keeps (by simp) (by simp) (.bool sw) (.slice mw nw cw)))
              replace TW := hide (TW.out.keep (BXr.out.keeps (by simp) (by simp) (.bool sw) (.slice mw nw cw)))
              replace BXq := hide (BXq.out.other (C := gr) (by have hx := LTS.out; omega) (.bool sw) (.slice mw nw cw))
              replace BXr := hide (BXr.out.put (.bool sw) (.slice mw nw cw))
              refine hK _ _ (fun _ => HF'.out) ?_
              clear hK K HF hc0 hf0 hc1 hf1
              have HF := hide HF'.out
              clear HF'
              generalize ((ws1.setCell ⟨gr, 0, none⟩ (.bool sw)).setCell ⟨gr, 1, none⟩ (.slice mw nw cw)) = ws2 at *
              refine Calm.take (i := 15) (v := ?_) (a' := ?_) (l' := #[true, true, true, true, true, true, true, true, true, true, true, true, true, true, true, true]) (d := some 14) rfl (by kernel_rfl) (by kernel_rfl) (by kernel_rfl) (by kernel_rfl) (fun _ _ _ h => h) HF.out rfl ?_ rfl rfl ?_ ?_
              rotate_left
              · intro w' hF; clear hF; go_simp; try rfl
              rotate_left
              · simp only [Act.put]; exact rfl
              refine Calm.done (by kernel_rfl) ?_
              go_wp2
              go_meet
              case rel => exact ⟨gq, sv, mv, nv, cv, rfl, (by have hx := LTS.out; omega), ⟨HF.out.1, HF.out.2.2.2.1, HF.out.2.2.2.2.1, HF.out.2.2.2.2.2.1, HF.out.2.2.2.2.2.2.1, HF.out.2.2.2.2.2.2.2.1, HF.out.2.2.2.2.2.2.2.2.2.2.1, HF.out.2.2.2.2.2.2.2.2.2.2.2⟩, BXq.out, TV.out⟩
            · go_simp
              have al := below_alloc u2 (.cells #[.bool false, .slice none 0 0] 25)
              have HF' := hide (And.intro (HF.out.1.trans ((al).mono HF.out.1.size)) (And.intro (HF.out.2.1.step (al)) (And.intro (HF.out.2.2.1.step (al)) (And.intro (HF.out.2.2.2.1.step (al)) (And.intro (HF.out.2.2.2.2.1.step (al)) (And.intro (HF.out.2.2.2.2.2.1.step (al)) (And.intro (HF.out.2.2.2.2.2.2.1.step (al)) (And.intro (HF.out.2.2.2.2.2.2.2.1.step (al)) (And.intro (HF.out.2.2.2.2.2.2.2.2.1.below (al)) (And.intro (HF.out.2.2.2.2.2.2.2.2.2.1.below (al)) (And.intro (HF.out.2.2.2.2.2.2.2.2.2.2.1.below (al)) (HF.out.2.2.2.2.2.2.2.2.2.2.2.below (al)))))))))))))
              have BXr := hide (Box.new u2 (.bool false) (.slice none 0 0))
              replace T2 := hide (T2.out.below (al))
              have LTqr := hide (BXq.out.lt)
              replace BXq := hide (BXq.out.step al)
              have LT1r := hide (HF.out.2.1.lt)
              have LT2r := hide (HF.out.2.2.1.lt)
              have LT3r := hide (HF.out.2.2.2.1.lt)
              have LT4r := hide (HF.out.2.2.2.2.1.lt)
              have LT5r := hide (HF.out.2.2.2.2.2.1.lt)
              have LT6r := hide (HF.out.2.2.2.2.2.2.1.lt)
              have LT7r := hide (HF.out.2.2.2.2.2.2.2.1.lt)
              have GEr := hide (HF.out.1.size)
              refine hK _ _ (fun _ => HF'.out) ?_
              clear hK K HF al
              have HF := hide HF'.out
              clear HF'
              generalize u2.alloc (.cells #[.bool false, .slice none 0 0] 25) = wzr at *
              generalize u2.heap.size = gr at *
              refine Calm.one (i := 6) (l' := #[true, true, true, true, true, true, true, false, false, false, false, true, true, false, false, false]) (by kernel_rfl) rfl rfl rfl fun K hK => ?_
              go_simp
              refine (idivmod_any _ _ (d - (u % (y / d)) * x) y _ T2.out HF.out.2.2.2.2.2.2.2.2.2.1 (SzI.len (SzI.sub SGG.out (SzI.mul SN.out SX.out)) (by have := HK.out; omega)) (SzI.len SY.out (by have := HK.out; omega)) HY.out).mono ?_
              rintro e u3 ⟨a, b, rfl, na, nb, hb⟩
              obtain ⟨sv, mv, nv, cv, rfl, na⟩ := na.cells
              obtain ⟨sw, mw, nw, cw, rfl, nb⟩ := nb.cells
              clear T2
              replace BXq := hide (BXq.out.step hb)
              replace BXr := hide (BXr.out.step hb)
              have HF' := hide (And.intro (HF.out.1.trans ((hb).mono HF.out.1.size)) (And.intro (HF.out.2.1.step (hb)) (And.intro (HF.out.2.2.1.step (hb)) (And.intro (HF.out.2.2.2.1.step (hb)) (And.intro (HF.out.2.2.2.2.1.step (hb)) (And.intro (HF.out.2.2.2.2.2.1.step (hb)) (And.intro (HF.out.2.2.2.2.2.2.1.step (hb)) (And.intro (HF.out.2.2.2.2.2.2.2.1.step (hb)) (And.intro (HF.out.2.2.2.2.2.2.2.2.1.below (hb)) (And.intro (HF.out.2.2.2.2.2.2.2.2.2.1.below (hb)) (And.intro (HF.out.2.2.2.2.2.2.2.2.2.2.1.below (hb)) (HF.out.2.2.2.2.2.2.2.2.2.2.2.below (hb)))))))))))))
              have TV := hide (na)
              have TW := hide (nb)
              refine hK _ _ (fun _ => HF'.out) ?_
              clear hK K HF hb na nb
              have HF := hide HF'.out
              clear HF'
              refine Calm.take (i := 7) (v := ?_) (a' := ?_) (l' := #[true, true, true, true, true, true, true, true, false, false, false, true, true, false, false, false]) (d := some 44) rfl (by kernel_rfl) (by kernel_rfl) (by kernel_rfl) (by kernel_rfl) (fun _ _ _ h => h) HF.out rfl ?_ rfl rfl ?_ ?_
              rotate_left
              · intro w' hF; clear hF; go_simp; try rfl
              rotate_left
              · simp only [Act.put]; exact rfl
              refine Calm.take (i := 8) (v := ?_) (a' := ?_) (l' := #[true, true, true, true, true, true, true, true, true, false, false, true, true, false, false, false]) (d := some 52) rfl (by kernel_rfl) (by kernel_rfl) (by kernel_rfl) (by kernel_rfl) (fun _ _ _ h => h) HF.out rfl ?_ rfl rfl ?_ ?_
              rotate_left
              · intro w' hF; clear hF; go_simp; try rfl
              rotate_left
              · simp only [Act.put]; exact rfl
              refine Calm.take (i := 9) (v := ?_) (a' := ?_) (l' := #[true, true, true, true, true, true, true, true, true, true, false, true, true, false, false, false]) (d := some 53) rfl (by kernel_rfl) (by kernel_rfl) (by kernel_rfl) (by kernel_rfl) (fun _ _ _ h => h) HF.out rfl ?_ rfl rfl ?_ ?_
              rotate_left
              · intro w' hF; clear hF; go_simp; try rfl
              rotate_left
              · simp only [Act.put]; exact rfl
              refine Calm.take (i := 10) (v := ?_) (a' := ?_) (l' := #[true, true, true, true, true, true, true, true, true, true, true, true, true, false, false, false]) (d := some 54) rfl (by kernel_rfl) (by kernel_rfl) (by kernel_rfl) (by kernel_rfl) (fun _ _ _ h => h) HF.out rfl ?_ rfl rfl ?_ ?_
              rotate_left
              · intro w' hF; clear hF; go_simp; try rfl
              rotate_left
              · simp only [Act.put]; exact rfl
              refine Calm.one (i := 13) (l' := #[true, true, true, true, true, true, true, true, true, true, true, true, true, true, false, false]) (by kernel_rfl) rfl rfl rfl fun K hK => ?_
              clear LTS
              have LTS := hide (And.intro (LT1q.out) (And.intro (LT2q.out) (And.intro (LT3q.out) (And.intro (LT4q.out) (And.intro (LT5q.out) (And.intro (LT6q.out) (And.intro (LT7q.out) (And.intro (LT1r.out) (And.intro (LT2r.out) (And.intro (LT3r.out) (And.intro (LT4r.out) (And.intro (LT5r.out) (And.intro (LT6r.out) (And.intro (LT7r.out) ((show gq ≠ gr by first | exact Nat.ne_of_lt LTqr.out | exact Nat.ne_of_gt LTrq.out))))))))))))))))
              have hc0 := BXq.out.cell0
              have hc1 := BXq.out.cell1
              have hf0 := BXq.out.free 0
              have hf1 := BXq.out.free 1
              go_simp
              have HF' := hide (And.intro (below_put HF.out.1 (show w.heap.size ≤ gq by have hx := LTS.out; omega) (.bool sv) (.slice mv nv cv)) (And.intro (HF.out.2.1.other (C := gq) (by have hx := LTS.out; omega) (.bool sv) (.slice mv nv cv)) (And.intro (HF.out.2.2.1.other (C := gq) (by have hx := LTS.out; omega) (.bool sv) (.slice mv nv cv)) (And.intro (HF.out.2.2.2.1.other (C := gq) (by have hx := LTS.out; omega) (.bool sv) (.slice mv nv cv)) (And.intro (HF.out.2.2.2.2.1.other (C := gq) (by have hx := LTS.out; omega) (.bool sv) (.slice mv nv cv)) (And.intro (HF.out.2.2.2.2.2.1.other (C := gq) (by have hx := LTS.out; omega) (.bool sv) (.slice mv nv cv)) (And.intro (HF.out.2.2.2.2.2.2.1.other (C := gq) (by have hx := LTS.out; omega) (.bool sv) (.slice mv nv cv)) (And.intro (HF.out.2.2.2.2.2.2.2.1.other (C := gq) (by have hx := LTS.out; omega) (.bool sv) (.slice mv nv cv)) (And.intro (HF.out.2.2.2.2.2.2.2.2.1.keep (BXq.out.keeps (by simp) (by simp) (.bool sv) (.slice mv nv cv))) (And.intro (HF.out.2.2.2.2.2.2.2.2.2.1.keep (BXq.out.keeps (by simp) (by simp) (.bool sv) (.slice mv nv cv))) (And.intro (HF.out.2.2.2.2.2.2.2.2.2.2.1.keep (BXq.out.keeps (by simp) (by simp) (.bool sv) (.slice mv nv cv))) (HF.out.2.2.2.2.2.2.2.2.2.2.2.keep (BXq.out.keeps (by simp) (by simp) (.bool sv) (.slice mv nv cv))))))))))))))
              replace TV := hide (TV.out.keep (BXq.out.keeps (by simp) (by simp) (.bool sv) (.slice mv nv cv)))
              replace TW := hide (TW.out.keep (BXq.out.keeps (by simp) (by simp) (.bool sv) (.slice mv nv cv)))
              replace BXr := hide (BXr.out.other (C := gq) (by have hx := LTS.out; omega) (.bool sv) (.slice mv nv cv))
              replace BXq := hide (BXq.out.put (.bool sv) (.slice mv nv cv))
              refine hK _ _ (fun _ => HF'.out) ?_
              clear hK K HF hc0 hf0 hc1 hf1
              have HF := hide HF'.out
              clear HF'
              generalize ((u3.setCell ⟨gq, 0, none⟩ (.bool sv)).setCell ⟨gq, 1, none⟩ (.slice mv nv cv)) = ws1 at *
              refine Calm.one (i := 14) (l' := #[true, true, true, true, true, true, true, true, true, true, true, true, true, true, true, false]) (by kernel_rfl) rfl rfl rfl fun K hK => ?_
              have hc0 := BXr.out.cell0
              have hc1 := BXr.out.cell1
              have hf0 := BXr.out.free 0
              have hf1 := BXr.out.free 1
              go_simp
              have HF' := hide (And.intro (below_put HF.out.1 (show w.heap.size ≤ gr by have hx := LTS.out; omega) (.bool sw) (.slice mw nw cw)) (And.intro (HF.out.2.1.other (C := gr) (by have hx := LTS.out; omega) (.bool sw) (.slice mw nw cw)) (And.intro (HF.out.2.2.1.other (C := gr) (by have hx := LTS.out; omega) (.bool sw) (.slice mw nw cw)) (And.intro (HF.out.2.2.2.1.other (C := gr) (by have hx := LTS.out; omega) (.bool sw) (.slice mw nw cw)) (And.intro (HF.out.2.2.2.2.1.other (C := gr) (by have hx := LTS.out; omega) (.bool sw) (.slice mw nw cw)) (And.intro (HF.out.2.2.2.2.2.1.other (C := gr) (by have hx := LTS.out; omega) (.bool sw) (.slice mw nw cw)) (And.intro (HF.out.2.2.2.2.2.2.1.other (C := gr) (by have hx := LTS.out; omega) (.bool sw) (.slice mw nw cw)) (And.intro (HF.out.2.2.2.2.2.2.2.1.other (C := gr) (by have hx := LTS.out; omega) (.bool sw) (.slice mw nw cw)) (And.intro (HF.out.2.2.2.2.2.2.2.2.1.keep (BXr.out.keeps (by simp) (by simp) (.bool sw) (.slice mw nw cw))) (And.intro (HF.out.2.2.2.2.2.2.2.2.2.1.keep (BXr.out.keeps (by simp) (by simp) (.bool sw) (.slice mw nw cw))) (And.intro (HF.out.2.2.2.2.2.2.2.2.2.2.1.keep (BXr.out.keeps (by simp) (by simp) (.bool sw) (.slice mw nw cw))) (HF.out.2.2.2.2.2.2.2.2.2.2.2.keep (BXr.out.keeps (by simp) (by simp) (.bool sw) (.slice mw nw cw))))))))))))))
              replace TV := hide (TV.out.keep (BXr.out.keeps (by simp) (by simp) (.bool sw) (.slice mw nw cw)))
              replace TW := hide (TW.out.keep (BXr.out.keeps (by simp) (by simp) (.bool sw) (.slice mw nw cw)))
              replace BXq := hide (BXq.out.other (C := gr) (by have hx := LTS.out; omega) (.bool sw) (.slice mw nw cw))
              replace BXr := hide (BXr.out.put (.bool sw) (.slice mw nw cw))
              refine hK _ _ (fun _ => HF'.out) ?_
              clear hK K HF hc0 hf0 hc1 hf1
              have HF := hide HF'.out
              clear HF'
              generalize ((ws1.setCell ⟨gr, 0, none⟩ (.bool sw)).setCell ⟨gr, 1, none⟩ (.slice mw nw cw)) = ws2 at *
              refine Calm.take (i := 15) (v := ?_) (a' := ?_) (l' := #[true, true, true, true, true, true, true, true, true, true, true, true, true, true, true, true]) (d := some 14) rfl (by kernel_rfl) (by kernel_rfl) (by kernel_rfl) (by kernel_rfl) (fun _ _ _ h => h) HF.out rfl ?_ rfl rfl ?_ ?_
              rotate_left
              · intro w' hF; clear hF; go_simp; try rfl
              rotate_left
              · simp only [Act.put]; exact rfl
              refine Calm.done (by kernel_rfl) ?_
              go_wp2
              go_meet
              case rel => exact ⟨gq, sv, mv, nv, cv, rfl, (by have hx := LTS.out; omega), ⟨HF.out.1, HF.out.2.2.2.1, HF.out.2.2.2.2.1, HF.out.2.2.2.2.2.1, HF.out.2.2.2.2.2.2.1, HF.out.2.2.2.2.2.2.2.1, HF.out.2.2.2.2.2.2.2.2.2.2.1, HF.out.2.2.2.2.2.2.2.2.2.2.2⟩, BXq.out, TV.out⟩
          · go_simp
            have al := below_alloc u1 (.cells #[.bool false, .slice none 0 0] 25)
            have HF' := hide (And.intro (HF.out.1.trans ((al).mono HF.out.1.size)) (And.intro (HF.out.2.1.step (al)) (And.intro (HF.out.2.2.1.step (al)) (And.intro (HF.out.2.2.2.1.step (al)) (And.intro (HF.out.2.2.2.2.1.step (al)) (And.intro (HF.out.2.2.2.2.2.1.step (al)) (And.intro (HF.out.2.2.2.2.2.2.1.step (al)) (And.intro (HF.out.2.2.2.2.2.2.2.1.step (al)) (And.intro (HF.out.2.2.2.2.2.2.2.2.1.below (al)) (And.intro (HF.out.2.2.2.2.2.2.2.2.2.1.below (al)) (And.intro (HF.out.2.2.2.2.2.2.2.2.2.2.1.below (al)) (HF.out.2.2.2.2.2.2.2.2.2.2.2.below (al)))))))))))))
            have BXr := hide (Box.new u1 (.bool false) (.slice none 0 0))
            replace T1 := hide (T1.out.below (al))
            have LTqr := hide (BXq.out.lt)
            replace BXq := hide (BXq.out.step al)
            have LT1r := hide (HF.out.2.1.lt)
            have LT2r := hide (HF.out.2.2.1.lt)
            have LT3r := hide (HF.out.2.2.2.1.lt)
            have LT4r := hide (HF.out.2.2.2.2.1.lt)
            have LT5r := hide (HF.out.2.2.2.2.2.1.lt)
            have LT6r := hide (HF.out.2.2.2.2.2.2.1.lt)
            have LT7r := hide (HF.out.2.2.2.2.2.2.2.1.lt)
            have GEr := hide (HF.out.1.size)
            refine hK _ _ (fun _ => HF'.out) ?_
            clear hK K HF al
            have HF := hide HF'.out
            clear HF'
            generalize u1.alloc (.cells #[.bool false, .slice none 0 0] 25) = wzr at *
            generalize u1.heap.size = gr at *
            refine Calm.one (i := 4) (l' := #[true, true, true, true, true, true, false, false, false, false, false, true, true, false, false, false]) (by kernel_rfl) rfl rfl rfl fun K hK => ?_
            go_simp
            refine (isub_any _ _ d ((u % (y / d)) * x) _ HF.out.2.2.2.2.2.2.2.2.2.2.1 T1.out (SzI.len SGG.out (by have := HK.out; omega)) (SzI.len (SzI.mul SN.out SX.out) (by have := HK.out; omega))).mono ?_
            rintro e u2 ⟨v, rfl, n, hb⟩
            clear T1
            replace BXq := hide (BXq.out.step hb)
            replace BXr := hide (BXr.out.step hb)
            have HF' := hide (And.intro (HF.out.1.trans ((hb).mono HF.out.1.size)) (And.intro (HF.out.2.1.step (hb)) (And.intro (HF.out.2.2.1.step (hb)) (And.intro (HF.out.2.2.2.1.step (hb)) (And.intro (HF.out.2.2.2.2.1.step (hb)) (And.intro (HF.out.2.2.2.2.2.1.step (hb)) (And.intro (HF.out.2.2.2.2.2.2.1.step (hb)) (And.intro (HF.out.2.2.2.2.2.2.2.1.step (hb)) (And.intro (HF.out.2.2.2.2.2.2.2.2.1.below (hb)) (And.intro (HF.out.2.2.2.2.2.2.2.2.2.1.below (hb)) (And.intro (HF.out.2.2.2.2.2.2.2.2.2.2.1.below (hb)) (HF.out.2.2.2.2.2.2.2.2.2.2.2.below (hb)))))))))))))
            have T2 := hide (n)
            refine hK _ _ (fun _ => HF'.out) ?_
            clear hK K HF hb n
            have HF := hide HF'.out
            clear HF'
            refine Calm.one (i := 6) (l' := #[true, true, true, true, true, true, true, false, false, false, false, true, true, false, false, false]) (by kernel_rfl) rfl rfl rfl fun K hK => ?_
            go_simp
            refine (idivmod_any _ _ (d - (u % (y / d)) * x) y _ T2.out HF.out.2.2.2.2.2.2.2.2.2.1 (SzI.len (SzI.sub SGG.out (SzI.mul SN.out SX.out)) (by have := HK.out; omega)) (SzI.len SY.out (by have := HK.out; omega)) HY.out).mono ?_
            rintro e u3 ⟨a, b, rfl, na, nb, hb⟩
            obtain ⟨sv, mv, nv, cv, rfl, na⟩ := na.cells
            obtain ⟨sw, mw, nw, cw, rfl, nb⟩ := nb.cells
            clear T2
            replace BXq := hide (BXq.out.step hb)
            replace BXr := hide (BXr.out.step hb)
            have HF' := hide (And.intro (HF.out.1.trans ((hb).mono HF.out.1.size)) (And.intro (HF.out.2.1.step (hb)) (And.intro (HF.out.2.2.1.step (hb)) (And.intro (HF.out.2.2.2.1.step (hb)) (And.intro (HF.out.2.2.2.2.1.step (hb)) (And.intro (HF.out.2.2.2.2.2.1.step (hb)) (And.intro (HF.out.2.2.2.2.2.2.1.step (hb)) (And.intro (HF.out.2.2.2.2.2.2.2.1.step (hb)) (And.intro (HF.out.2.2.2.2.2.2.2.2.1.below (hb)) (And.intro (HF.out.2.2.2.2.2.2.2.2.2.1.below (hb)) (And.intro (HF.out.2.2.2.2.2.2.2.2.2.2.1.below (hb)) (HF.out.2.2.2.2.2.2.2.2.2.2.2.below (hb)))))))))))))
            have TV := hide (na)
            have TW := hide (nb)
            refine hK _ _ (fun _ => HF'.out) ?_
            clear hK K HF hb na nb
            have HF := hide HF'.out
            clear HF'
            refine Calm.take (i := 7) (v := ?_) (a' := ?_) (l' := #[true, true, true, true, true, true, true, true, false, false, false, true, true, false, false, false]) (d := some 44) rfl (by kernel_rfl) (by kernel_rfl) (by kernel_rfl) (by kernel_rfl) (fun _ _ _ h => h) HF.out rfl ?_ rfl rfl ?_ ?_
            rotate_left
            · intro w' hF; clear hF; go_simp; try rfl
            rotate_left
            · simp only [Act.put]; exact rfl
            refine Calm.take (i := 8) (v := ?_) (a' := ?_) (l' := #[true, true, true, true, true, true, true, true, true, false, false, true, true, false, false, false]) (d := some 52) rfl (by kernel_rfl) (by kernel_rfl) (by kernel_rfl) (by kernel_rfl) (fun _ _ _ h => h) HF.out rfl ?_ rfl rfl ?_ ?_
            rotate_left
            · intro w' hF; clear hF; go_simp; try rfl
            rotate_left
            · simp only [Act.put]; exact rfl
            refine Calm.take (i := 9) (v := ?_) (a' := ?_) (l' := #[true, true, true, true, true, true, true, true, true, true, false, true, true, false, false, false]) (d := some 53) rfl (by kernel_rfl) (by kernel_rfl) (by kernel_rfl) (by kernel_rfl) (fun _ _ _ h => h) HF.out rfl ?_ rfl rfl ?_ ?_
            rotate_left
            · intro w' hF; clear hF; go_simp; try rfl
            rotate_left
            · simp only [Act.put]; exact rfl
            refine Calm.take (i := 10) (v := ?_) (a' := ?_) (l' := #[true, true, true, true, true, true, true, true, true, true, true, true, true, false, false, false]) (d := some 54) rfl (by kernel_rfl) (by kernel_rfl) (by kernel_rfl) (by kernel_rfl) (fun _ _ _ h => h) HF.out rfl ?_ rfl rfl ?_ ?_
            rotate_left
            · intro w' hF; clear hF; go_simp; try rfl
            rotate_left
            · simp only [Act.put]; exact rfl
            refine Calm.one (i := 13) (l' := #[true, true, true, true, true, true, true, true, true, true, true, true, true, true, false, false]) (by kernel_rfl) rfl rfl rfl fun K hK => ?_
            clear LTS
            have LTS := hide (And.intro (LT1q.out) (And.intro (LT2q.out) (And.intro (LT3q.out) (And.intro (LT4q.out) (And.intro (LT5q.out) (And.intro (LT6q.out) (And.intro (LT7q.out) (And.intro (LT1r.out) (And.intro (LT2r.out) (And.intro (LT3r.out) (And.intro (LT4r.out) (And.intro (LT5r.out) (And.intro (LT6r.out) (And.intro (LT7r.out) ((show gq ≠ gr by first | exact Nat.ne_of_lt LTqr.out | exact Nat.ne_of_gt LTrq.out))))))))))))))))
            have hc0 := BXq.out.cell0
            have hc1 := BXq.out.cell1
            have hf0 := BXq.out.free 0
            have hf1 := BXq.out.free 1
            go_simp
            have HF' := hide (And.intro (below_put HF.out.1 (show w.heap.size ≤ gq by have hx := LTS.out; omega) (.bool sv) (.slice mv nv cv)) (And.intro (HF.out.2.1.other (C := gq) (by have hx := LTS.out; omega) (.bool sv) (.slice mv nv cv)) (And.intro (HF.out.2.2.1.other (C := gq) (by have hx := LTS.out; omega) (.bool sv) (.slice mv nv cv)) (And.intro (HF.out.2.2.2.1.other (C := gq) (by have hx := LTS.out; omega) (.bool sv) (.slice mv nv cv)) (And.intro (HF.out.2.2.2.2.1.other (C := gq) (by have hx := LTS.out; omega) (.bool sv) (.slice mv nv cv)) (And.intro (HF.out.2.2.2.2.2.1.other (C := gq) (by have hx := LTS.out; omega) (.bool sv) (.slice mv nv cv)) (And.intro (HF.out.2.2.2.2.2.2.1.other (C := gq) (by have hx := LTS.out; omega) (.bool sv) (.slice mv nv cv)) (And.intro (HF.out.2.2.2.2.2.2.2.1.other (C := gq) (by have hx := LTS.out; omega) (.bool sv) (.slice mv nv cv)) (And.intro (HF.out.2.2.2.2.2.2.2.2.1.keep (BXq.out.keeps (by simp) (by simp) (.bool sv) (.slice mv nv cv))) (And.intro (HF.out.2.2.2.2.2.2.2.2.2.1.keep (BXq.out.keeps (by simp) (by simp) (.bool sv) (.slice mv nv cv))) (And.intro (HF.out.2.2.2.2.2.2.2.2.2.2.1.keep (BXq.out.keeps (by simp) (by simp) (.bool sv) (.slice mv nv cv))) (HF.out.2.2.2.2.2.2.2.2.2.2.2.keep (BXq.out.keeps (by simp) (by simp) (.bool sv) (.slice mv nv cv))))))))))))))
            replace TV := hide (TV.out.keep (BXq.out.keeps (by simp) (by simp) (.bool sv) (.slice mv nv cv)))
            replace TW := hide (TW.out.keep (BXq.out.keeps (by simp) (by simp) (.bool sv) (.slice mv nv cv)))
            replace BXr := hide (BXr.out.other (C := gq) (by have hx := LTS.out; omega) (.bool sv) (.slice mv nv cv))
            replace BXq := hide (BXq.out.put (.bool sv) (.slice mv nv cv))
            refine hK _ _ (fun _ => HF'.out) ?_
            clear hK K HF hc0 hf0 hc1 hf1
            have HF := hide HF'.out
            clear HF'
            generalize ((u3.setCell ⟨gq, 0, none⟩ (.bool sv)).setCell ⟨gq, 1, none⟩ (.slice mv nv cv)) = ws1 at *
            refine Calm.one (i := 14) (l' := #[true, true, true, true, true, true, true, true, true, true, true, true, true, true, true, false]) (by kernel_rfl) rfl rfl rfl fun K hK => ?_
            have hc0 := BXr.out.cell0
            have hc1 := BXr.out.cell1
            have hf0 := BXr.out.free 0
            have hf1 := BXr.out.free 1
            go_simp
            have HF' := hide (And.intro (below_put HF.out.1 (show w.heap.size ≤ gr by have hx := LTS.out; omega) (.bool sw) (.slice mw nw cw)) (And.intro (HF.out.2.1.other (C := gr) (by have hx := LTS.out; omega) (.bool sw) (.slice mw nw cw)) (And.intro (HF.out.2.2.1.other (C := gr) (by have hx := LTS.out; omega) (.bool sw) (.slice mw nw cw)) (And.intro (HF.out.2.2.2.1.other (C := gr) (by have hx := LTS.out; omega) (.bool sw) (.slice mw nw cw)) (And.intro (HF.out.2.2.2.2.1.other (C := gr) (by have hx := LTS.out; omega) (.bool sw) (.slice mw nw cw)) (And.intro (HF.out.2.2.2.2.2.1.other (C := gr) (by have hx := LTS.out; omega) (.bool sw) (.slice mw nw cw)) (And.intro (HF.out.2.2.2.2.2.2.1.other (C := gr) (by have hx := LTS.out; omega) (.bool sw) (.slice mw nw cw)) (And.intro (HF.out.2.2.2.2.2.2.2.1.other (C := gr) (by have hx := LTS.out; omega) (.bool sw) (.slice mw nw cw)) (And.intro (HF.out.2.2.2.2.2.2.2.2.1.keep (BXr.out.keeps (by simp) (by simp) (.bool sw) (.slice mw nw cw))) (And.intro (HF.out.2.2.2.2.2.2.2.2.2.1.keep (BXr.out.keeps (by simp) (by simp) (.bool sw) (.slice mw nw cw))) (And.intro (HF.out.2.2.2.2.2.2.2.2.2.2.1.keep (BXr.out.keeps (by simp) (by simp) (.bool sw) (.slice mw nw cw))) (HF.out.2.2.2.2.2.2.2.2.2.2.2.keep (BXr.out.keeps (by simp) (by simp) (.bool sw) (.slice mw nw cw))))))))))))))
            replace TV := hide (TV.out.keep (BXr.out.keeps (by simp) (by simp) (.bool sw) (.slice mw nw cw)))
            replace TW := hide (TW.out.keep (BXr.out.keeps (by simp) (by simp) (.bool sw) (.slice mw nw cw)))
            replace BXq := hide (BXq.out.other (C := gr) (by have hx := LTS.out; omega) (.bool sw) (.slice mw nw cw))
            replace BXr := hide (BXr.out.put (.bool sw) (.slice mw nw cw))
            refine hK _ _ (fun _ => HF'.out) ?_
            clear hK K HF hc0 hf0 hc1 hf1
            have HF := hide HF'.out
            clear HF'
            generalize ((ws1.setCell ⟨gr, 0, none⟩ (.bool sw)).setCell ⟨gr, 1, none⟩ (.slice mw nw cw)) = ws2 at *
            refine Calm.take (i := 15) (v := ?_) (a' := ?_) (l' := #[true, true, true, true, true, true, true, true, true, true, true, true, true, true, true, true]) (d := some 14) rfl (by kernel_rfl) (by kernel_rfl) (by kernel_rfl) (by kernel_rfl) (fun _ _ _ h => h) HF.out rfl ?_ rfl rfl ?_ ?_
            rotate_left
            · intro w' hF; clear hF; go_simp; try rfl
            rotate_left
            · simp only [Act.put]; exact rfl
            refine Calm.done (by kernel_rfl) ?_
            go_wp2
            go_meet
            case rel => exact ⟨gq, sv, mv, nv, cv, rfl, (by have hx := LTS.out; omega), ⟨HF.out.1, HF.out.2.2.2.1, HF.out.2.2.2.2.1, HF.out.2.2.2.2.2.1, HF.out.2.2.2.2.2.2.1, HF.out.2.2.2.2.2.2.2.1, HF.out.2.2.2.2.2.2.2.2.2.2.1, HF.out.2.2.2.2.2.2.2.2.2.2.2⟩, BXq.out, TV.out⟩
        · go_simp
          have al := below_alloc wzq (.cells #[.bool false, .slice none 0 0] 25)
          have HF' := hide (And.intro (HF.out.1.trans ((al).mono HF.out.1.size)) (And.intro (HF.out.2.1.step (al)) (And.intro (HF.out.2.2.1.step (al)) (And.intro (HF.out.2.2.2.1.step (al)) (And.intro (HF.out.2.2.2.2.1.step (al)) (And.intro (HF.out.2.2.2.2.2.1.step (al)) (And.intro (HF.out.2.2.2.2.2.2.1.step (al)) (And.intro (HF.out.2.2.2.2.2.2.2.1.step (al)) (And.intro (HF.out.2.2.2.2.2.2.2.2.1.below (al)) (And.intro (HF.out.2.2.2.2.2.2.2.2.2.1.below (al)) (And.intro (HF.out.2.2.2.2.2.2.2.2.2.2.1.below (al)) (HF.out.2.2.2.2.2.2.2.2.2.2.2.below (al)))))))))))))
          have BXr := hide (Box.new wzq (.bool false) (.slice none 0 0))
          have LTqr := hide (BXq.out.lt)
          replace BXq := hide (BXq.out.step al)
          have LT1r := hide (HF.out.2.1.lt)
          have LT2r := hide (HF.out.2.2.1.lt)
          have LT3r := hide (HF.out.2.2.2.1.lt)
          have LT4r := hide (HF.out.2.2.2.2.1.lt)
          have LT5r := hide (HF.out.2.2.2.2.2.1.lt)
          have LT6r := hide (HF.out.2.2.2.2.2.2.1.lt)
          have LT7r := hide (HF.out.2.2.2.2.2.2.2.1.lt)
          have GEr := hide (HF.out.1.size)
          refine hK _ _ (fun _ => HF'.out) ?_
          clear hK K HF al
          have HF := hide HF'.out
          clear HF'
          generalize wzq.alloc (.cells #[.bool false, .slice none 0 0] 25) = wzr at *
          generalize wzq.heap.size = gr at *
          refine Calm.one (i := 3) (l' := #[true, true, true, true, false, true, false, false, false, false, false, true, true, false, false, false]) (by kernel_rfl) rfl rfl rfl fun K hK => ?_
          go_simp
          refine (imul_any _ _ (u % (y / d)) x _ HF.out.2.2.2.2.2.2.2.2.2.2.2 HF.out.2.2.2.2.2.2.2.2.1 (SzI.len SN.out (by have := HK.out; omega)) (SzI.len SX.out (by have := HK.out; omega))).mono ?_
          rintro e u1 ⟨v, rfl, n, hb⟩
          replace BXq := hide (BXq.out.step hb)
          replace BXr := hide (BXr.out.step hb)
          have HF' := hide (And.intro (HF.out.1.trans ((hb).mono HF.out.1.size)) (And.intro (HF.out.2.1.step (hb)) (And.intro (HF.out.2.2.1.step (hb)) (And.intro (HF.out.2.2.2.1.step (hb)) (And.intro (HF.out.2.2.2.2.1.step (hb)) (And.intro (HF.out.2.2.2.2.2.1.step (hb)) (And.intro (HF.out.2.2.2.2.2.2.1.step (hb)) (And.intro (HF.out.2.2.2.2.2.2.2.1.step (hb)) (And.intro (HF.out.2.2.2.2.2.2.2.2.1.below (hb)) (And.intro (HF.out.2.2.2.2.2.2.2.2.2.1.below (hb)) (And.intro (HF.out.2.2.2.2.2.2.2.2.2.2.1.below (hb)) (HF.out.2.2.2.2.2.2.2.2.2.2.2.below (hb)))))))))))))
          have T1 := hide (n)
          refine hK _ _ (fun _ => HF'.out) ?_
          clear hK K HF hb n
          have HF := hide HF'.out
          clear HF'
          refine Calm.one (i := 4) (l' := #[true, true, true, true, true, true, false, false, false, false, false, true, true, false, false, false]) (by kernel_rfl) rfl rfl rfl fun K hK => ?_
          go_simp
          refine (isub_any _ _ d ((u % (y / d)) * x) _ HF.out.2.2.2.2.2.2.2.2.2.2.1 T1.out (SzI.len SGG.out (by have := HK.out; omega)) (SzI.len (SzI.mul SN.out SX.out) (by have := HK.out; omega))).mono ?_
          rintro e u2 ⟨v, rfl, n, hb⟩
          clear T1
          replace BXq := hide (BXq.out.step hb)
          replace BXr := hide (BXr.out.step hb)
          have HF' := hide (And.intro (HF.out.1.trans ((hb).mono HF.out.1.size)) (And.intro (HF.out.2.1.step (hb)) (And.intro (HF.out.2.2.1.step (hb)) (And.intro (HF.out.2.2.2.1.step (hb)) (And.intro (HF.out.2.2.2.2.1.step (hb)) (And.intro (HF.out.2.2.2.2.2.1.step (hb)) (And.intro (HF.out.2.2.2.2.2.2.1.step (hb)) (And.intro (HF.out.2.2.2.2.2.2.2.1.step (hb)) (And.intro (HF.out.2.2.2.2.2.2.2.2.1.below (hb)) (And.intro (HF.out.2.2.2.2.2.2.2.2.2.1.below (hb)) (And.intro (HF.out.2.2.2.2.2.2.2.2.2.2.1.below (hb)) (HF.out.2.2.2.2.2.2.2.2.2.2.2.below (hb)))))))))))))
          have T2 := hide (n)
          refine hK _ _ (fun _ => HF'.out) ?_
          clear hK K HF hb n
          have HF := hide HF'.out
          clear HF'
          refine Calm.one (i := 6) (l' := #[true, true, true, true, true, true, true, false, false, false, false, true, true, false, false, false]) (by kernel_rfl) rfl rfl rfl fun K hK => ?_
          go_simp
          refine (idivmod_any _ _ (d - (u % (y / d)) * x) y _ T2.out HF.out.2.2.2.2.2.2.2.2.2.1 (SzI.len (SzI.sub SGG.out (SzI.mul SN.out SX.out)) (by have := HK.out; omega)) (SzI.len SY.out (by have := HK.out; omega)) HY.out).mono ?_
          rintro e u3 ⟨a, b, rfl, na, nb, hb⟩
          obtain ⟨sv, mv, nv, cv, rfl, na⟩ := na.cells
          obtain ⟨sw, mw, nw, cw, rfl, nb⟩ := nb.cells
          clear T2
          replace BXq := hide (BXq.out.step hb)
          replace BXr := hide (BXr.out.step hb)
          have HF' := hide (And.intro (HF.out.1.trans ((hb).mono HF.out.1.size)) (And.intro (HF.out.2.1.step (hb)) (And.intro (HF.out.2.2.1.step (hb)) (And.intro (HF.out.2.2.2.1.step (hb)) (And.intro (HF.out.2.2.2.2.1.step (hb)) (And.intro (HF.out.2.2.2.2.2.1.step (hb)) (And.intro (HF.out.2.2.2.2.2.2.1.step (hb)) (And.intro (HF.out.2.2.2.2.2.2.2.1.step (hb)) (And.intro (HF.out.2.2.2.2.2.2.2.2.1.below (hb)) (And.intro (HF.out.2.2.2.2.2.2.2.2.2.1.below (hb)) (And.intro (HF.out.2.2.2.2.2.2.2.2.2.2.1.below (hb)) (HF.out.2.2.2.2.2.2.2.2.2.2.2.below (hb)))))))))))))
          have TV := hide (na)
          have TW := hide (nb)
          refine hK _ _ (fun _ => HF'.out) ?_
          clear hK K HF hb na nb
          have HF := hide HF'.out
          clear HF'
          refine Calm.take (i := 7) (v := ?_) (a' := ?_) (l' := #[true, true, true, true, true, true, true, true, false, false, false, true, true, false, false, false]) (d := some 44) rfl (by kernel_rfl) (by kernel_rfl) (by kernel_rfl) (by kernel_rfl) (fun _ _ _ h => h) HF.out rfl ?_ rfl rfl ?_ ?_
          rotate_left
          · intro w' hF; clear hF; go_simp; try rfl
          rotate_left
          · simp only [Act.put]; exact rfl
          refine Calm.take (i := 8) (v := ?_) (a' := ?_) (l' := #[true, true, true, true, true, true, true, true, true, false, false, true, true, false, false, false]) (d := some 52) rfl (by kernel_rfl) (by kernel_rfl) (by kernel_rfl) (by kernel_rfl) (fun _ _ _ h => h) HF.out rfl ?_ rfl rfl ?_ ?_
          rotate_left
          · intro w' hF; clear hF; go_simp; try rfl
          rotate_left
          · simp only [Act.put]; exact rfl
          refine Calm.take (i := 9) (v := ?_) (a' := ?_) (l' := #[true, true, true, true, true, true, true, true, true, true, false, true, true, false, false, false]) (d := some 53) rfl (by kernel_rfl) (by kernel_rfl) (by kernel_rfl) (by kernel_rfl) (fun _ _ _ h => h) HF.out rfl ?_ rfl rfl ?_ ?_
          rotate_left
          · intro w' hF; clear hF; go_simp; try rfl
          rotate_left
          · simp only [Act.put]; exact rfl
          refine Calm.take (i := 10) (v := ?_) (a' := ?_) (l' := #[true, true, true, true, true, true, true, true, true, true, true, true, true, false, false, false]) (d := some 54) rfl (by kernel_rfl) (by kernel_rfl) (by kernel_rfl) (by kernel_rfl) (fun _ _ _ h => h) HF.out rfl ?_ rfl rfl ?_ ?_
          rotate_left
          · intro w' hF; clear hF; go_simp; try rfl
          rotate_left
          · simp only [Act.put]; exact rfl
          refine Calm.one (i := 13) (l' := #[true, true, true, true, true, true, true, true, true, true, true, true, true, true, false, false]) (by kernel_rfl) rfl rfl rfl fun K hK => ?_
          clear LTS
          have LTS := hide (And.intro (LT1q.out) (And.intro (LT2q.out) (And.intro (LT3q.out) (And.intro (LT4q.out) (And.intro (LT5q.out) (And.intro (LT6q.out) (And.intro (LT7q.out) (And.intro (LT1r.out) (And.intro (LT2r.out) (And.intro (LT3r.out) (And.intro (LT4r.out) (And.intro (LT5r.out) (And.intro (LT6r.out) (And.intro (LT7r.out) ((show gq ≠ gr by first | exact Nat.ne_of_lt LTqr.out | exact Nat.ne_of_gt LTrq.out))))))))))))))))
          have hc0 := BXq.out.cell0
          have hc1 := BXq.out.cell1
          have hf0 := BXq.out.free 0
          have hf1 := BXq.out.free 1
          go_simp
          have HF' := hide (And.intro (below_put HF.out.1 (show w.heap.size ≤ gq by have hx := LTS.out; omega) (.bool sv) (.slice mv nv cv)) (And.intro (HF.out.2.1.other (C := gq) (by have hx := LTS.out; omega) (.bool sv) (.slice mv nv cv)) (And.intro (HF.out.2.2.1.other (C := gq) (by have hx := LTS.out; omega) (.bool sv) (.slice mv nv cv)) (And.intro (HF.out.2.2.2.1.other (C := gq) (by have hx := LTS.out; omega) (.bool sv) (.slice mv nv cv)) (And.intro (HF.out.2.2.2.2.1.other (C := gq) (by have hx := LTS.out; omega) (.bool sv) (.slice mv nv cv)) (And.intro (HF.out.2.2.2.2.2.1.other (C := gq) (by have hx := LTS.out; omega) (.bool sv) (.slice mv nv cv)) (And.intro (HF.out.2.2.2.2.2.2.1.other (C := gq) (by have hx := LTS.out; omega) (.bool sv) (.slice mv nv cv)) (And.intro (HF.out.2.2.2.2.2.2.2.1.other (C := gq) (by have hx := LTS.out; omega) (.bool sv) (.slice mv nv cv)) (And.intro (HF.out.2.2.2.2.2.2.2.2.1.keep (BXq.out.keeps (by simp) (by simp) (.bool sv) (.slice mv nv cv))) (And.intro (HF.out.2.2.2.2.2.2.2.2.2.1.keep (BXq.out.keeps (by simp) (by simp) (.bool sv) (.slice mv nv cv))) (And.intro (HF.out.2.2.2.2.2.2.2.2.2.2.1.keep (BXq.out.keeps (by simp) (by simp) (.bool sv) (.slice mv nv cv))) (HF.out.2.2.2.2.2.2.2.2.2.2.2.keep (BXq.out.keeps (by simp) (by simp) (.bool sv) (.slice mv nv cv))))))))))))))
          replace TV := hide (TV.out.keep (BXq.out.keeps (by simp) (by simp) (.bool sv) (.slice mv nv cv)))
          replace TW := hide (TW.out.keep (BXq.out.keeps (by simp) (by simp) (.bool sv) (.slice mv nv cv)))
          replace BXr := hide (BXr.out.other (C := gq) (by have hx := LTS.out; omega) (.bool sv) (.slice mv nv cv))
          replace BXq := hide (BXq.out.put (.bool sv) (.slice mv nv cv))
          refine hK _ _ (fun _ => HF'.out) ?_
          clear hK K HF hc0 hf0 hc1 hf1
          have HF := hide HF'.out
          clear HF'
          generalize ((u3.setCell ⟨gq, 0, none⟩ (.bool sv)).setCell ⟨gq, 1, none⟩ (.slice mv nv cv)) = ws1 at *
          refine Calm.one (i := 14) (l' := #[true, true, true, true, true, true, true, true, true, true, true, true, true, true, true, false]) (by kernel_rfl) rfl rfl rfl fun K hK => ?_
          have hc0 := BXr.out.cell0
          have hc1 := BXr.out.cell1
          have hf0 := BXr.out.free 0
          have hf1 := BXr.out.free 1
          go_simp
          have HF' := hide (And.intro (below_put HF.out.1 (show w.heap.size ≤ gr by have hx := LTS.out; omega) (.bool sw) (.slice mw nw cw)) (And.intro (HF.out.2.1.other (C := gr) (by have hx := LTS.out; omega) (.bool sw) (.slice mw nw cw)) (And.intro (HF.out.2.2.1.other (C := gr) (by have hx := LTS.out; omega) (.bool sw) (.slice mw nw cw)) (And.intro (HF.out.2.2.2.1.other (C := gr) (by have hx := LTS.out; omega) (.bool sw) (.slice mw nw cw)) (And.intro (HF.out.2.2.2.2.1.other (C := gr) (by have hx := LTS.out; omega) (.bool sw) (.slice mw nw cw)) (And.intro (HF.out.2.2.2.2.2.1.other (C := gr) (by have hx := LTS.out; omega) (.bool sw) (.slice mw nw cw)) (And.intro (HF.out.2.2.2.2.2.2.1.other (C := gr) (by have hx := LTS.out; omega) (.bool sw) (.slice mw nw cw)) (And.intro (HF.out.2.2.2.2.2.2.2.1.other (C := gr) (by have hx := LTS.out; omega) (.bool sw) (.slice mw nw cw)) (And.intro (HF.out.2.2.2.2.2.2.2.2.1.keep (BXr.out.keeps (by simp) (by simp) (.bool sw) (.slice mw nw cw))) (And.intro (HF.out.2.2.2.2.2.2.2.2.2.1.keep (BXr.out.keeps (by simp) (by simp) (.bool sw) (.slice mw nw cw))) (And.intro (HF.out.2.2.2.2.2.2.2.2.2.2.1.keep (BXr.out.keeps (by simp) (by simp) (.bool sw) (.slice mw nw cw))) (HF.out.2.2.2.2.2.2.2.2.2.2.2.keep (BXr.out.keeps (by simp) (by simp) (.bool sw) (.slice mw nw cw))))))))))))))
          replace TV := hide (TV.out.keep (BXr.out.keeps (by simp) (by simp) (.bool sw) (.slice mw nw cw)))
          replace TW := hide (TW.out.keep (BXr.out.keeps (by simp) (by simp) (.bool sw) (.slice mw nw cw)))
          replace BXq := hide (BXq.out.other (C := gr) (by have hx := LTS.out; omega) (.bool sw) (.slice mw nw cw))
          replace BXr := hide (BXr.out.put (.bool sw) (.slice mw nw cw))
          refine hK _ _ (fun _ => HF'.out) ?_
          clear hK K HF hc0 hf0 hc1 hf1
          have HF := hide HF'.out
          clear HF'
          generalize ((ws1.setCell ⟨gr, 0, none⟩ (.bool sw)).setCell ⟨gr, 1, none⟩ (.slice mw nw cw)) = ws2 at *
          refine Calm.take (i := 15) (v := ?_) (a' := ?_) (l' := #[true, true, true, true, true, true, true, true, true, true, true, true, true, true, true, true]) (d := some 14) rfl (by kernel_rfl) (by kernel_rfl) (by kernel_rfl) (by kernel_rfl) (fun _ _ _ h => h) HF.out rfl ?_ rfl rfl ?_ ?_
          rotate_left
          · intro w' hF; clear hF; go_simp; try rfl
          rotate_left
          · simp only [Act.put]; exact rfl
          refine Calm.done (by kernel_rfl) ?_
          go_wp2
          go_meet
          case rel => exact ⟨gq, sv, mv, nv, cv, rfl, (by have hx := LTS.out; omega), ⟨HF.out.1, HF.out.2.2.2.1, HF.out.2.2.2.2.1, HF.out.2.2.2.2.2.1, HF.out.2.2.2.2.2.2.1, HF.out.2.2.2.2.2.2.2.1, HF.out.2.2.2.2.2.2.2.2.2.2.1, HF.out.2.2.2.2.2.2.2.2.2.2.2⟩, BXq.out, TV.out⟩
      · go_simp
        have al := below_alloc w5d (.cells #[.bool false, .slice none 0 0] 25)
        have HF' := hide (And.intro (HF.out.1.trans ((al).mono HF.out.1.size)) (And.intro (HF.out.2.1.step (al)) (And.intro (HF.out.2.2.1.step (al)) (And.intro (HF.out.2.2.2.1.step (al)) (And.intro (HF.out.2.2.2.2.1.step (al)) (And.intro (HF.out.2.2.2.2.2.1.step (al)) (And.intro (HF.out.2.2.2.2.2.2.1.step (al)) (And.intro (HF.out.2.2.2.2.2.2.2.1.step (al)) (And.intro (HF.out.2.2.2.2.2.2.2.2.1.below (al)) (And.intro (HF.out.2.2.2.2.2.2.2.2.2.1.below (al)) (And.intro (HF.out.2.2.2.2.2.2.2.2.2.2.1.below (al)) (HF.out.2.2.2.2.2.2.2.2.2.2.2.below (al)))))))))))))
        have BXr := hide (Box.new w5d (.bool false) (.slice none 0 0))
        have LT1r := hide (HF.out.2.1.lt)
        have LT2r := hide (HF.out.2.2.1.lt)
        have LT3r := hide (HF.out.2.2.2.1.lt)
        have LT4r := hide (HF.out.2.2.2.2.1.lt)
        have LT5r := hide (HF.out.2.2.2.2.2.1.lt)
        have LT6r := hide (HF.out.2.2.2.2.2.2.1.lt)
        have LT7r := hide (HF.out.2.2.2.2.2.2.2.1.lt)
        have GEr := hide (HF.out.1.size)
        refine hK _ _ (fun _ => HF'.out) ?_
        clear hK K HF al
        have HF := hide HF'.out
        clear HF'
        generalize w5d.alloc (.cells #[.bool false, .slice none 0 0] 25) = wzr at *
        generalize w5d.heap.size = gr at *
        refine Calm.two (i := 3) (j := 11) (l := #[true, true, true, true, false, true, false, false, false, false, false, false, true, false, false, false]) (l' := #[true, true, true, false, false, true, false, false, false, false, false, true, true, false, false, false]) (by kernel_rfl) rfl rfl rfl rfl rfl rfl (fun K hK => ?_) (fun K hK => ?_)
        · go_simp
          refine (imul_any _ _ (u % (y / d)) x _ HF.out.2.2.2.2.2.2.2.2.2.2.2 HF.out.2.2.2.2.2.2.2.2.1 (SzI.len SN.out (by have := HK.out; omega)) (SzI.len SX.out (by have := HK.out; omega))).mono ?_
          rintro e u1 ⟨v, rfl, n, hb⟩
          replace BXr := hide (BXr.out.step hb)
          have HF' := hide (And.intro (HF.out.1.trans ((hb).mono HF.out.1.size)) (And.intro (HF.out.2.1.step (hb)) (And.intro (HF.out.2.2.1.step (hb)) (And.intro (HF.out.2.2.2.1.step (hb)) (And.intro (HF.out.2.2.2.2.1.step (hb)) (And.intro (HF.out.2.2.2.2.2.1.step (hb)) (And.intro (HF.out.2.2.2.2.2.2.1.step (hb)) (And.intro (HF.out.2.2.2.2.2.2.2.1.step (hb)) (And.intro (HF.out.2.2.2.2.2.2.2.2.1.below (hb)) (And.intro (HF.out.2.2.2.2.2.2.2.2.2.1.below (hb)) (And.intro (HF.out.2.2.2.2.2.2.2.2.2.2.1.below (hb)) (HF.out.2.2.2.2.2.2.2.2.2.2.2.below (hb)))))))))))))
          have T1 := hide (n)
          refine hK _ _ (fun _ => HF'.out) ?_
          clear hK K HF hb n
          have HF := hide HF'.out
          clear HF'
          refine Calm.two (i := 4) (j := 11) (l := #[true, true, true, true, true, true, false, false, false, false, false, false, true, false, false, false]) (l' := #[true, true, true, true, false, true, false, false, false, false, false, true, true, false, false, false]) (by kernel_rfl) rfl rfl rfl rfl rfl rfl (fun K hK => ?_) (fun K hK => ?_)
          · go_simp
            refine (isub_any _ _ d ((u % (y / d)) * x) _ HF.out.2.2.2.2.2.2.2.2.2.2.1 T1.out (SzI.len SGG.out (by have := HK.out; omega)) (SzI.len (SzI.mul SN.out SX.out) (by have := HK.out; omega))).mono ?_
            rintro e u2 ⟨v, rfl, n, hb⟩
            clear T1
            replace BXr := hide (BXr.out.step hb)
            have HF' := hide (And.intro (HF.out.1.trans ((hb).mono HF.out.1.size)) (And.intro (HF.out.2.1.step (hb)) (And.intro (HF.out.2.2.1.step (hb)) (And.intro (HF.out.2.2.2.1.step (hb)) (And.intro (HF.out.2.2.2.2.1.step (hb)) (And.intro (HF.out.2.2.2.2.2.1.step (hb)) (And.intro (HF.out.2.2.2.2.2.2.1.step (hb)) (And.intro (HF.out.2.2.2.2.2.2.2.1.step (hb)) (And.intro (HF.out.2.2.2.2.2.2.2.2.1.below (hb)) (And.intro (HF.out.2.2.2.2.2.2.2.2.2.1.below (hb)) (And.intro (HF.out.2.2.2.2.2.2.2.2.2.2.1.below (hb)) (HF.out.2.2.2.2.2.2.2.2.2.2.2.below (hb)))))))))))))
            have T2 := hide (n)
            refine hK _ _ (fun _ => HF'.out) ?_
            clear hK K HF hb n
            have HF := hide HF'.out
            clear HF'
            refine Calm.two (i := 6) (j := 11) (l := #[true, true, true, true, true, true, true, false, false, false, false, false, true, false, false, false]) (l' := #[true, true, true, true, true, true, false, false, false, false, false, true, true, false, false, false]) (by kernel_rfl) rfl rfl rfl rfl rfl rfl (fun K hK => ?_) (fun K hK => ?_)
            · go_simp
              refine (idivmod_any _ _ (d - (u % (y / d)) * x) y _ T2.out HF.out.2.2.2.2.2.2.2.2.2.1 (SzI.len (SzI.sub SGG.out (SzI.mul SN.out SX.out)) (by have := HK.out; omega)) (SzI.len SY.out (by have := HK.out; omega)) HY.out).mono ?_
              rintro e u3 ⟨a, b, rfl, na, nb, hb⟩
              obtain ⟨sv, mv, nv, cv, rfl, na⟩ := na.cells
              obtain ⟨sw, mw, nw, cw, rfl, nb⟩ := nb.cells
              clear T2
              replace BXr := hide (BXr.out.step hb)
              have HF' := hide (And.intro (HF.out.1.trans ((hb).mono HF.out.1.size)) (And.intro (HF.out.2.1.step (hb)) (And.intro (HF.out.2.2.1.step (hb)) (And.intro (HF.out.2.2.2.1.step (hb)) (And.intro (HF.out.2.2.2.2.1.step (hb)) (And.intro (HF.out.2.2.2.2.2.1.step (hb)) (And.intro (HF.out.2.2.2.2.2.2.1.step (hb)) (And.intro (HF.out.2.2.2.2.2.2.2.1.step (hb)) (And.intro (HF.out.2.2.2.2.2.2.2.2.1.below (hb)) (And.intro (HF.out.2.2.2.2.2.2.2.2.2.1.below (hb)) (And.intro (HF.out.2.2.2.2.2.2.2.2.2.2.1.below (hb)) (HF.out.2.2.2.2.2.2.2.2.2.2.2.below (hb)))))))))))))
              have TV := hide (na)
              have TW := hide (nb)
              refine hK _ _ (fun _ => HF'.out) ?_
              clear hK K HF hb na nb
              have HF := hide HF'.out
              clear HF'
              refine Calm.take (i := 7) (v := ?_) (a' := ?_) (l' := #[true, true, true, true, true, true, true, true, false, false, false, false, true, false, false, false]) (d := some 44) rfl (by kernel_rfl) (by kernel_rfl) (by kernel_rfl) (by kernel_rfl) (fun _ _ _ h => h) HF.out rfl ?_ rfl rfl ?_ ?_
              rotate_left
              · intro w' hF; clear hF; go_simp; try rfl
              rotate_left
              · simp only [Act.put]; exact rfl
              refine Calm.take (i := 8) (v := ?_) (a' := ?_) (l' := #[true, true, true, true, true, true, true, true, true, false, false, false, true, false, false, false]) (d := some 52) rfl (by kernel_rfl) (by kernel_rfl) (by kernel_rfl) (by kernel_rfl) (fun _ _ _ h => h) HF.out rfl ?_ rfl rfl ?_ ?_
              rotate_left
              · intro w' hF; clear hF; go_simp; try rfl
              rotate_left
              · simp only [Act.put]; exact rfl
              refine Calm.take (i := 9) (v := ?_) (a' := ?_) (l' := #[true, true, true, true, true, true, true, true, true, true, false, false, true, false, false, false]) (d := some 53) rfl (by kernel_rfl) (by kernel_rfl) (by kernel_rfl) (by kernel_rfl) (fun _ _ _ h => h) HF.out rfl ?_ rfl rfl ?_ ?_
              rotate_left
              · intro w' hF; clear hF; go_simp; try rfl
              rotate_left
              · simp only [Act.put]; exact rfl
              refine Calm.take (i := 10) (v := ?_) (a' := ?_) (l' := #[true, true, true, true, true, true, true, true, true, true, true, false, true, false, false, false]) (d := some 54) rfl (by kernel_rfl) (by kernel_rfl) (by kernel_rfl) (by kernel_rfl) (fun _ _ _ h => h) HF.out rfl ?_ rfl rfl ?_ ?_
              rotate_left
              · intro w' hF; clear hF; go_simp; try rfl
              rotate_left
              · simp only [Act.put]; exact rfl
              refine Calm.one (i := 11) (l' := #[true, true, true, true, true, true, true, true, true, true, true, true, true, false, false, false]) (by kernel_rfl) rfl rfl rfl fun K hK => ?_
              go_simp
              have al := below_alloc u3 (.cells #[.bool false, .slice none 0 0] 25)
              have HF' := hide (And.intro (HF.out.1.trans ((al).mono HF.out.1.size)) (And.intro (HF.out.2.1.step (al)) (And.intro (HF.out.2.2.1.step (al)) (And.intro (HF.out.2.2.2.1.step (al)) (And.intro (HF.out.2.2.2.2.1.step (al)) (And.intro (HF.out.2.2.2.2.2.1.step (al)) (And.intro (HF.out.2.2.2.2.2.2.1.step (al)) (And.intro (HF.out.2.2.2.2.2.2.2.1.step (al)) (And.intro (HF.out.2.2.2.2.2.2.2.2.1.below (al)) (And.intro (HF.out.2.2.2.2.2.2.2.2.2.1.below (al)) (And.intro (HF.out.2.2.2.2.2.2.2.2.2.2.1.below (al)) (HF.out.2.2.2.2.2.2.2.2.2.2.2.below (al)))))))))))))
              have BXq := hide (Box.new u3 (.bool false) (.slice none 0 0))
              replace TV := hide (TV.out.below (al))
              replace TW := hide (TW.out.below (al))
              have LTrq := hide (BXr.out.lt)
              replace BXr := hide (BXr.out.step al)
              have LT1q := hide (HF.out.2.1.lt)
              have LT2q := hide (HF.out.2.2.1.lt)
              have LT3q := hide (HF.out.2.2.2.1.lt)
              have LT4q := hide (HF.out.2.2.2.2.1.lt)
              have LT5q := hide (HF.out.2.2.2.2.2.1.lt)
              have LT6q := hide (HF.out.2.2.2.2.2.2.1.lt)
              have LT7q := hide (HF.out.2.2.2.2.2.2.2.1.lt)
              have GEq := hide (HF.out.1.size)
              refine hK _ _ (fun _ => HF'.out) ?_
              clear hK K HF al
              have HF := hide HF'.out
              clear HF'
              generalize u3.alloc (.cells #[.bool false, .slice none 0 0] 25) = wzq at *
              generalize u3.heap.size = gq at *
              refine Calm.one (i := 13) (l' := #[true, true, true, true, true, true, true, true, true, true, true, true, true, true, false, false]) (by kernel_rfl) rfl rfl rfl fun K hK => ?_
              clear LTS
              have LTS := hide (And.intro (LT1q.out) (And.intro (LT2q.out) (And.intro (LT3q.out) (And.intro (LT4q.out) (And.intro (LT5q.out) (And.intro (LT6q.out) (And.intro (LT7q.out) (And.intro (LT1r.out) (And.intro (LT2r.out) (And.intro (LT3r.out) (And.intro (LT4r.out) (And.intro (LT5r.out) (And.intro (LT6r.out) (And.intro (LT7r.out) ((show gq ≠ gr by first | exact Nat.ne_of_lt LTqr.out | exact Nat.ne_of_gt LTrq.out))))))))))))))))
              have hc0 := BXq.out.cell0
              have hc1 := BXq.out.cell1
              have hf0 := BXq.out.free 0
              have hf1 := BXq.out.free 1
              go_simp
              have HF' := hide (And.intro (below_put HF.out.1 (show w.heap.size ≤ gq by have hx := LTS.out; omega) (.bool sv) (.slice mv nv cv)) (And.intro (HF.out.2.1.other (C := gq) (by have hx := LTS.out; omega) (.bool sv) (.slice mv nv cv)) (And.intro (HF.out.2.2.1.other (C := gq) (by have hx := LTS.out; omega) (.bool sv) (.slice mv nv cv)) (And.intro (HF.out.2.2.2.1.other (C := gq) (by have hx := LTS.out; omega) (.bool sv) (.slice mv nv cv)) (And.intro (HF.out.2.2.2.2.1.other (C := gq) (by have hx := LTS.out; omega) (.bool sv) (.slice mv nv cv)) (And.intro (HF.out.2.2.2.2.2.1.other (C := gq) (by have hx := LTS.out; omega) (.bool sv) (.slice mv nv cv)) (And.intro (HF.out.2.2.2.2.2.2.1.other (C := gq) (by have hx := LTS.out; omega) (.bool sv) (.slice mv nv cv)) (And.intro (HF.out.2.2.2.2.2.2.2.1.other (C := gq) (by have hx := LTS.out; omega) (.bool sv) (.slice mv nv cv)) (And.intro (HF.out.2.2.2.2.2.2.2.2.1.keep (BXq.out.keeps (by simp) (by simp) (.bool sv) (.slice mv nv cv))) (And.intro (HF.out.2.2.2.2.2.2.2.2.2.1.keep (BXq.out.keeps (by simp) (by simp) (.bool sv) (.slice mv nv cv))) (And.intro (HF.out.2.2.2.2.2.2.2.2.2.2.1.keep (BXq.out.keeps (by simp) (by simp) (.bool sv) (.slice mv nv cv))) (HF.out.2.2.2.2.2.2.2.2.2.2.2.keep (BXq.out.keeps (by simp) (by simp) (.bool sv) (.slice mv nv cv))))))))))))))
              replace TV := hide (TV.out.keep (BXq.out.keeps (by simp) (by simp) (.bool sv) (.slice mv nv cv)))
              replace TW := hide (TW.out.keep (BXq.out.keeps (by simp) (by simp) (.bool sv) (.slice mv nv cv)))
              replace BXr := hide (BXr.out.other (C := gq) (by have hx := LTS.out; omega) (.bool sv) (.slice mv nv cv))
              replace BXq := hide (BXq.out.put (.bool sv) (.slice mv nv cv))
              refine hK _ _ (fun _ => HF'.out) ?_
              clear hK K HF hc0 hf0 hc1 hf1
              have HF := hide HF'.out
              clear HF'
              generalize ((wzq.setCell ⟨gq, 0, none⟩ (.bool sv)).setCell ⟨gq, 1, none⟩ (.slice mv nv cv)) = ws1 at *
              refine Calm.one (i := 14) (l' := #[true, true, true, true, true, true, true, true, true, true, true, true, true, true, true, false]) (by kernel_rfl) rfl rfl rfl fun K hK => ?_
              have hc0 := BXr.out.cell0
              have hc1 := BXr.out.cell1
              have hf0 := BXr.out.free 0
              have hf1 := BXr.out.free 1
              go_simp
              have HF' := hide (And.intro (below_put HF.out.1 (show w.heap.size ≤ gr by have hx := LTS.out; omega) (.bool sw) (.slice mw nw cw)) (And.intro (HF.out.2.1.other (C := gr) (by have hx := LTS.out; omega) (.bool sw) (.slice mw nw cw)) (And.intro (HF.out.2.2.1.other (C := gr) (by have hx := LTS.out; omega) (.bool sw) (.slice mw nw cw)) (And.intro (HF.out.2.2.2.1.other (C := gr) (by have hx := LTS.out; omega) (.bool sw) (.slice mw nw cw)) (And.intro (HF.out.2.2.2.2.1.other (C := gr) (by have hx := LTS.out; omega) (.bool sw) (.slice mw nw cw)) (And.intro (HF.out.2.2.2.2.2.1.other (C := gr) (by have hx := LTS.out; omega) (.bool sw) (.slice mw nw cw)) (And.intro (HF.out.2.2.2.2.2.2.1.other (C := gr) (by have hx := LTS.out; omega) (.bool sw) (.slice mw nw cw)) (And.intro (HF.out.2.2.2.2.2.2.2.1.other (C := gr) (by have hx := LTS.out; omega) (.bool sw) (.slice mw nw cw)) (And.intro (HF.out.2.2.2.2.2.2.2.2.1.keep (BXr.out.keeps (by simp) (by simp) (.bool sw) (.slice mw nw cw))) (And.intro (HF.out.2.2.2.2.2.2.2.2.2.1.keep (BXr.out.keeps (by simp) (by simp) (.bool sw) (.slice mw nw cw))) (And.intro (HF.out.2.2.2.2.2.2.2.2.2.2.1.keep (BXr.out.keeps (by simp) (by simp) (.bool sw) (.slice mw nw cw))) (HF.out.2.2.2.2.2.2.2.2.2.2.2.keep (BXr.out.keeps (by simp) (by simp) (.bool sw) (.slice mw nw cw))))))))))))))
              replace TV := hide (TV.out.keep (BXr.out.keeps (by simp) (by simp) (.bool sw) (.slice mw nw cw)))
              replace TW := hide (TW.out.keep (BXr.out.keeps (by simp) (by simp) (.bool sw) (.slice mw nw cw)))
              replace BXq := hide (BXq.out.other (C := gr) (by have hx := LTS.out; omega) (.bool sw) (.slice mw nw cw))
              replace BXr := hide (BXr.out.put (.bool sw) (.slice mw nw cw))
              refine hK _ _ (fun _ => HF'.out) ?_
              clear hK K HF hc0 hf0 hc1 hf1
              have HF := hide HF'.out
              clear HF'
              generalize ((ws1.setCell ⟨gr, 0, none⟩ (.bool sw)).setCell ⟨gr, 1, none⟩ (.slice mw nw cw)) = ws2 at *
              refine Calm.take (i := 15) (v := ?_) (a' := ?_) (l' := #[true, true, true, true, true, true, true, true, true, true, true, true, true, true, true, true]) (d := some 14) rfl (by kernel_rfl) (by kernel_rfl) (by kernel_rfl) (by kernel_rfl) (fun _ _ _ h => h) HF.out rfl ?_ rfl rfl ?_ ?_
              rotate_left
              · intro w' hF; clear hF; go_simp; try rfl
              rotate_left
              · simp only [Act.put]; exact rfl
              refine Calm.done (by kernel_rfl) ?_
              go_wp2
              go_meet
              case rel => exact ⟨gq, sv, mv, nv, cv, rfl, (by have hx := LTS.out; omega), ⟨HF.out.1, HF.out.2.2.2.1, HF.out.2.2.2.2.1, HF.out.2.2.2.2.2.1, HF.out.2.2.2.2.2.2.1, HF.out.2.2.2.2.2.2.2.1, HF.out.2.2.2.2.2.2.2.2.2.2.1, HF.out.2.2.2.2.2.2.2.2.2.2.2⟩, BXq.out, TV.out⟩
            · go_simp
              have al := below_alloc u2 (.cells #[.bool false, .slice none 0 0] 25)
              have HF' := hide (And.intro (HF.out.1.trans ((al).mono HF.out.1.size)) (And.intro (HF.out.2.1.step (al)) (And.intro (HF.out.2.2.1.step (al)) (And.intro (HF.out.2.2.2.1.step (al)) (And.intro (HF.out.2.2.2.2.1.step (al)) (And.intro (HF.out.2.2.2.2.2.1.step (al)) (And.intro (HF.out.2.2.2.2.2.2.1.step (al)) (And.intro (HF.out.2.2.2.2.2.2.2.1.step (al)) (And.intro (HF.out.2.2.2.2.2.2.2.2.1.below (al)) (And.intro (HF.out.2.2.2.2.2.2.2.2.2.1.below (al)) (And.intro (HF.out.2.2.2.2.2.2.2.2.2.2.1.below (al)) (HF.out.2.2.2.2.2.2.2.2.2.2.2.below (al)))))))))))))
              have BXq := hide (Box.new u2 (.bool false) (.slice none 0 0))
              replace T2 := hide (T2.out.below (al))
              have LTrq := hide (BXr.out.lt)
              replace BXr := hide (BXr.out.step al)
              have LT1q := hide (HF.out.2.1.lt)
              have LT2q := hide (HF.out.2.2.1.lt)
              have LT3q := hide (HF.out.2.2.2.1.lt)
              have LT4q := hide (HF.out.2.2.2.2.1.lt)
              have LT5q := hide (HF.out.2.2.2.2.2.1.lt)
              have LT6q := hide (HF.out.2.2.2.2.2.2.1.lt)
              have LT7q := hide (HF.out.2.2.2.2.2.2.2.1.lt)
              have GEq := hide (HF.out.1.size)
              refine hK _ _ (fun _ => HF'.out) ?_
              clear hK K HF al
              have HF := hide HF'.out
              clear HF'
              generalize u2.alloc (.cells #[.bool false, .slice none 0 0] 25) = wzq at *
              generalize u2.heap.size = gq at *
              refine Calm.one (i := 6) (l' := #[true, true, true, true, true, true, true, false, false, false, false, true, true, false, false, false]) (by kernel_rfl) rfl rfl rfl fun K hK => ?_
              go_simp
              refine (idivmod_any _ _ (d - (u % (y / d)) * x) y _ T2.out HF.out.2.2.2.2.2.2.2.2.2.1 (SzI.len (SzI.sub SGG.out (SzI.mul SN.out SX.out)) (by have := HK.out; omega)) (SzI.len SY.out (by have := HK.out; omega)) HY.out).mono ?_
              rintro e u3 ⟨a, b, rfl, na, nb, hb⟩
              obtain ⟨sv, mv, nv, cv, rfl, na⟩ := na.cells
              obtain ⟨sw, mw, nw, cw, rfl, nb⟩ := nb.cells
              clear T2
              replace BXr := hide (BXr.out.step hb)
              replace BXq := hide (BXq.out.step hb)
              have HF' := hide (And.intro (HF.out.1.trans ((hb).mono HF.out.1.size)) (And.intro (HF.out.2.1.step (hb)) (And.intro (HF.out.2.2.1.step (hb)) (And.intro (HF.out.2.2.2.1.step (hb)) (And.intro (HF.out.2.2.2.2.1.step (hb)) (And.intro (HF.out.2.2.2.2.2.1.step (hb)) (And.intro (HF.out.2.2.2.2.2.2.1.step (hb)) (And.intro (HF.out.2.2.2.2.2.2.2.1.step (hb)) (And.intro (HF.out.2.2.2.2.2.2.2.2.1.below (hb)) (And.intro (HF.out.2.2.2.2.2.2.2.2.2.1.below (hb)) (And.intro (HF.out.2.2.2.2.2.2.2.2.2.2.1.below (hb)) (HF.out.2.2.2.2.2.2.2.2.2.2.2.below (hb)))))))))))))
              have TV := hide (na)
              have TW := hide (nb)
              refine hK _ _ (fun _ => HF'.out) ?_
              clear hK K HF hb na nb
              have HF := hide HF'.out
              clear HF'
              refine Calm.take (i := 7) (v := ?_) (a' := ?_) (l' := #[true, true, true, true, true, true, true, true, false, false, false, true, true, false, false, false]) (d := some 44) rfl (by kernel_rfl) (by kernel_rfl) (by kernel_rfl) (by kernel_rfl) (fun _ _ _ h => h) HF.out rfl ?_ rfl rfl ?_ ?_
              rotate_left
              · intro w' hF; clear hF; go_simp; try rfl
              rotate_left
              · simp only [Act.put]; exact rfl
              refine Calm.take (i := 8) (v := ?_) (a' := ?_) (l' := #[true, true, true, true, true, true, true, true, true, false, false, true, true, false, false, false]) (d := some 52) rfl (by kernel_rfl) (by kernel_rfl) (by kernel_rfl) (by kernel_rfl) (fun _ _ _ h => h) HF.out rfl ?_ rfl rfl ?_ ?_
              rotate_left
              · intro w' hF; clear hF; go_simp; try rfl
              rotate_left
              · simp only [Act.put]; exact rfl
              refine Calm.take (i := 9) (v := ?_) (a' := ?_) (l' := #[true, true, true, true, true, true, true, true, true, true, false, true, true, false, false, false]) (d := some 53) rfl (by kernel_rfl) (by kernel_rfl) (by kernel_rfl) (by kernel_rfl) (fun _ _ _ h => h) HF.out rfl ?_ rfl rfl ?_ ?_
              rotate_left
              · intro w' hF; clear hF; go_simp; try rfl
              rotate_left
              · simp only [Act.put]; exact rfl
              refine Calm.take (i := 10) (v := ?_) (a' := ?_) (l' := #[true, true, true, true, true, true, true, true, true, true, true, true, true, false, false, false]) (d := some 54) rfl (by kernel_rfl) (by kernel_rfl) (by kernel_rfl) (by kernel_rfl) (fun _ _ _ h => h) HF.out rfl ?_ rfl rfl ?_ ?_
              rotate_left
              · intro w' hF; clear hF; go_simp; try rfl
              rotate_left
              · simp only [Act.put]; exact rfl
              refine Calm.one (i := 13) (l' := #[true, true, true, true, true, true, true, true, true, true, true, true, true, true, false, false]) (by kernel_rfl) rfl rfl rfl fun K hK => ?_
              clear LTS
              have LTS := hide (And.intro (LT1q.out) (And.intro (LT2q.out) (And.intro (LT3q.out) (And.intro (LT4q.out) (And.intro (LT5q.out) (And.intro (LT6q.out) (And.intro (LT7q.out) (And.intro (LT1r.out) (And.intro (LT2r.out) (And.intro (LT3r.out) (And.intro (LT4r.out) (And.intro (LT5r.out) (And.intro (LT6r.out) (And.intro (LT7r.out) ((show gq ≠ gr by first | exact Nat.ne_of_lt LTqr.out | exact Nat.ne_of_gt LTrq.out))))))))))))))))
              have hc0 := BXq.out.cell0
              have hc1 := BXq.out.cell1
              have hf0 := BXq.out.free 0
              have hf1 := BXq.out.free 1
              go_simp
              have HF' := hide (And.intro (below_put HF.out.1 (show w.heap.size ≤ gq by have hx := LTS.out; omega) (.bool sv) (.slice mv nv cv)) (And.intro (HF.out.2.1.other (C := gq) (by have hx := LTS.out; omega) (.bool sv) (.slice mv nv cv)) (And.intro (HF.out.2.2.1.other (C := gq) (by have hx := LTS.out; omega) (.bool sv) (.slice mv nv cv)) (And.intro (HF.out.2.2.2.1.other (C := gq) (by have hx := LTS.out; omega) (.bool sv) (.slice mv nv cv)) (And.intro (HF.out.2.2.2.2.1.other (C := gq) (by have hx := LTS.out; omega) (.bool sv) (.slice mv nv cv)) (And.intro (HF.out.2.2.2.2.2.1.other (C := gq) (by have hx := LTS.out; omega) (.bool sv) (.slice mv nv cv)) (And.intro (HF.out.2.2.2.2.2.2.1.other (C := gq) (by have hx := LTS.out; omega) (.bool sv) (.slice mv nv cv)) (And.intro (HF.out.2.2.2.2.2.2.2.1.other (C := gq) (by have hx := LTS.out; omega) (.bool sv) (.slice mv nv cv)) (And.intro (HF.out.2.2.2.2.2.2.2.2.1.keep (BXq.out.keeps (by simp) (by simp) (.bool sv) (.slice mv nv cv))) (And.intro (HF.out.2.2.2.2.2.2.2.2.2.1.keep (BXq.out.keeps (by simp) (by simp) (.bool sv) (.slice mv nv cv))) (And.intro (HF.out.2.2.2.2.2.2.2.2.2.2.1.keep (BXq.out.keeps (by simp) (by simp) (.bool sv) (.slice mv nv cv))) (HF.out.2.2.2.2.2.2.2.2.2.2.2.keep (BXq.out.keeps (by simp) (by simp) (.bool sv) (.slice mv nv cv))))))))))))))
              replace TV := hide (TV.out.keep (BXq.out.keeps (by simp) (by simp) (.bool sv) (.slice mv nv cv)))
              replace TW := hide (TW.out.keep (BXq.out.keeps (by simp) (by simp) (.bool sv) (.slice mv nv cv)))
              replace BXr := hide (BXr.out.other (C := gq) (by have hx := LTS.out; omega) (.bool sv) (.slice mv nv cv))
              replace BXq := hide (BXq.out.put (.bool sv) (.slice mv nv cv))
              refine hK _ _ (fun _ => HF'.out) ?_
              clear hK K HF hc0 hf0 hc1 hf1
              have HF := hide HF'.out
              clear HF'
              generalize ((u3.setCell ⟨gq, 0, none⟩ (.bool sv)).setCell ⟨gq, 1, none⟩ (.slice mv nv cv)) = ws1 at *
              refine Calm.one (i := 14) (l' := #[true, true, true, true, true, true, true, true, true, true, true, true, true, true, true, false]) (by kernel_rfl) rfl rfl rfl fun K hK => ?_
              have hc0 := BXr.out.cell0
              have hc1 := BXr.out.cell1
              have hf0 := BXr.out.free 0
              have hf1 := BXr.out.free 1
              go_simp
              have HF' := hide (And.intro (below_put HF.out.1 (show w.heap.size ≤ gr by have hx := LTS.out; omega) (.bool sw) (.slice mw nw cw)) (And.intro (HF.out.2.1.other (C := gr) (by have hx := LTS.out; omega) (.bool sw) (.slice mw nw cw)) (And.intro (HF.out.2.2.1.other (C := gr) (by have hx := LTS.out; omega) (.bool sw) (.slice mw nw cw)) (And.intro (HF.out.2.2.2.1.other (C := gr) (by have hx := LTS.out; omega) (.bool sw) (.slice mw nw cw)) (And.intro (HF.out.2.2.2.2.1.other (C := gr) (by have hx := LTS.out; omega) (.bool sw) (.slice mw nw cw)) (And.intro (HF.out.2.2.2.2.2.1.other (C := gr) (by have hx := LTS.out; omega) (.bool sw) (.slice mw nw cw)) (And.intro (HF.out.2.2.2.2.2.2.1.other (C := gr) (by have hx := LTS.out; omega) (.bool sw) (.slice mw nw cw)) (And.intro (HF.out.2.2.2.2.2.2.2.1.other (C := gr) (by have hx := LTS.out; omega) (.bool sw) (.slice mw nw cw)) (And.intro (HF.out.2.2.2.2.2.2.2.2.1.keep (BXr.out.keeps (by simp) (by simp) (.bool sw) (.slice mw nw cw))) (And.intro (HF.out.2.2.2.2.2.2.2.2.2.1.keep (BXr.out.keeps (by simp) (by simp) (.bool sw) (.slice mw nw cw))) (And.intro (HF.out.2.2.2.2.2.2.2.2.2.2.1.keep (BXr.out.keeps (by simp) (by simp) (.bool sw) (.slice mw nw cw))) (HF.out.2.2.2.2.2.2.2.2.2.2.2.keep (BXr.out.keeps (by simp) (by simp) (.bool sw) (.slice mw nw cw))))))))))))))
              replace TV := hide (TV.out.keep (BXr.out.keeps (by simp) (by simp) (.bool sw) (.slice mw nw cw)))
              replace TW := hide (TW.out.keep (BXr.out.keeps (by simp) (by simp) (.bool sw) (.slice mw nw cw)))
              replace BXq := hide (BXq.out.other (C := gr) (by have hx := LTS.out; omega) (.bool sw) (.slice mw nw cw))
              replace BXr := hide (BXr.out.put (.bool sw) (.slice mw nw cw))
              refine hK _ _ (fun _ => HF'.out) ?_
              clear hK K HF hc0 hf0 hc1 hf1
              have HF := hide HF'.out
              clear HF'
              generalize ((ws1.setCell ⟨gr, 0, none⟩ (.bool sw)).setCell ⟨gr, 1, none⟩ (.slice mw nw cw)) = ws2 at *
              refine Calm.take (i := 15) (v := ?_) (a' := ?_) (l' := #[true, true, true, true, true, true, true, true, true, true, true, true, true, true, true, true]) (d := some 14) rfl (by kernel_rfl) (by kernel_rfl) (by kernel_rfl) (by kernel_rfl) (fun _ _ _ h => h) HF.out rfl ?_ rfl rfl ?_ ?_
              rotate_left
              · intro w' hF; clear hF; go_simp; try rfl
              rotate_left
              · simp only [Act.put]; exact rfl
              refine Calm.done (by kernel_rfl) ?_
              go_wp2
              go_meet
              case rel => exact ⟨gq, sv, mv, nv, cv, rfl, (by have hx := LTS.out; omega), ⟨HF.out.1, HF.out.2.2.2.1, HF.out.2.2.2.2.1, HF.out.2.2.2.2.2.1, HF.out.2.2.2.2.2.2.1, HF.out.2.2.2.2.2.2.2.1, HF.out.2.2.2.2.2.2.2.2.2.2.1, HF.out.2.2.2.2.2.2.2.2.2.2.2⟩, BXq.out, TV.out⟩
          · go_simp
            have al := below_alloc u1 (.cells #[.bool false, .slice none 0 0] 25)
            have HF' := hide (And.intro (HF.out.1.trans ((al).mono HF.out.1.size)) (And.intro (HF.out.2.1.step (al)) (And.intro (HF.out.2.2.1.step (al)) (And.intro (HF.out.2.2.2.1.step (al)) (And.intro (HF.out.2.2.2.2.1.step (al)) (And.intro (HF.out.2.2.2.2.2.1.step (al)) (And.intro (HF.out.2.2.2.2.2.2.1.step (al)) (And.intro (HF.out.2.2.2.2.2.2.2.1.step (al)) (And.intro (HF.out.2.2.2.2.2.2.2.2.1.below (al)) (And.intro (HF.out.2.2.2.2.2.2.2.2.2.1.below (al)) (And.intro (HF.out.2.2.2.2.2.2.2.2.2.2.1.below (al)) (HF.out.2.2.2.2.2.2.2.2.2.2.2.below (al)))))))))))))
            have BXq := hide (Box.new u1 (.bool false) (.slice none 0 0))
            replace T1 := hide (T1.out.below (al))
            have LTrq := hide (BXr.out.lt)
            replace BXr := hide (BXr.out.step al)
            have LT1q := hide (HF.out.2.1.lt)
            have LT2q := hide (HF.out.2.2.1.lt)
            have LT3q := hide (HF.out.2.2.2.1.lt)
            have LT4q := hide (HF.out.2.2.2.2.1.lt)
            have LT5q := hide (HF.out.2.2.2.2.2.1.lt)
            have LT6q := hide (HF.out.2.2.2.2.2.2.1.lt)
            have LT7q := hide (HF.out.2.2.2.2.2.2.2.1.lt)
            have GEq := hide (HF.out.1.size)
            refine hK _ _ (fun _ => HF'.out) ?_
            clear hK K HF al
            have HF := hide HF'.out
            clear HF'
            generalize u1.alloc (.cells #[.bool false, .slice none 0 0] 25) = wzq at *
            generalize u1.heap.size = gq at *
            refine Calm.one (i := 4) (l' := #[true, true, true, true, true, true, false, false, false, false, false, true, true, false, false, false]) (by kernel_rfl) rfl rfl rfl fun K hK => ?_
            go_simp
            refine (isub_any _ _ d ((u % (y / d)) * x) _ HF.out.2.2.2.2.2.2.2.2.2.2.1 T1.out (SzI.len SGG.out (by have := HK.out; omega)) (SzI.len (SzI.mul SN.out SX.out) (by have := HK.out; omega))).mono ?_
            rintro e u2 ⟨v, rfl, n, hb⟩
            clear T1
            replace BXr := hide (BXr.out.step hb)
            replace BXq := hide (BXq.out.step hb)
            have HF' := hide (And.intro (HF.out.1.trans ((hb).mono HF.out.1.size)) (And.intro (HF.out.2.1.step (hb)) (And.intro (HF.out.2.2.1.step (hb)) (And.intro (HF.out.2.2.2.1.step (hb)) (And.intro (HF.out.2.2.2.2.1.step (hb)) (And.intro (HF.out.2.2.2.2.2.1.step (hb)) (And.intro (HF.out.2.2.2.2.2.2.1.step (hb)) (And.intro (HF.out.2.2.2.2.2.2.2.1.step (hb)) (And.intro (HF.out.2.2.2.2.2.2.2.2.1.below (hb)) (And.intro (HF.out.2.2.2.2.2.2.2.2.2.1.below (hb)) (And.intro (HF.out.2.2.2.2.2.2.2.2.2.2.1.below (hb)) (HF.out.2.2.2.2.2.2.2.2.2.2.2.below (hb)))))))))))))
            have T2 := hide (n)
            refine hK _ _ (fun _ => HF'.out) ?_
            clear hK K HF hb n
            have HF := hide HF'.out
            clear HF'
            refine Calm.one (i := 6) (l' := #[true, true, true, true, true, true, true, false, false, false, false, true, true, false, false, false]) (by kernel_rfl) rfl rfl rfl fun K hK => ?_
            go_simp
            refine (idivmod_any _ _ (d - (u % (y / d)) * x) y _ T2.out HF.out.2.2.2.2.2.2.2.2.2.1 (SzI.len (SzI.sub SGG.out (SzI.mul SN.out SX.out)) (by have := HK.out; omega)) (SzI.len SY.out (by have := HK.out; omega)) HY.out).mono ?_
            rintro e u3 ⟨a, b, rfl, na, nb, hb⟩
            obtain ⟨sv, mv, nv, cv, rfl, na⟩ := na.cells
            obtain ⟨sw, mw, nw, cw, rfl, nb⟩ := nb.cells
            clear T2
            replace BXr := hide (BXr.out.step hb)
            replace BXq := hide (BXq.out.step hb)
            have HF' := hide (And.intro (HF.out.1.trans ((hb).mono HF.out.1.size)) (And.intro (HF.out.2.1.step (hb)) (And.intro (HF.out.2.2.1.step (hb)) (And.intro (HF.out.2.2.2.1.step (hb)) (And.intro (HF.out.2.2.2.2.1.step (hb)) (And.intro (HF.out.2.2.2.2.2.1.step (hb)) (And.intro (HF.out.2.2.2.2.2.2.1.step (hb)) (And.intro (HF.out.2.2.2.2.2.2.2.1.step (hb)) (And.intro (HF.out.2.2.2.2.2.2.2.2.1.below (hb)) (And.intro (HF.out.2.2.2.2.2.2.2.2.2.1.below (hb)) (And.intro (HF.out.2.2.2.2.2.2.2.2.2.2.1.below (hb)) (HF.out.2.2.2.2.2.2.2.2.2.2.2.below (hb)))))))))))))
            have TV := hide (na)
            have TW := hide (nb)
            refine hK _ _ (fun _ => HF'.out) ?_
            clear hK K HF hb na nb
            have HF := hide HF'.out
            clear HF'
            refine Calm.take (i := 7) (v := ?_) (a' := ?_) (l' := #[true, true, true, true, true, true, true, true, false, false, false, true, true, false, false, false]) (d := some 44) rfl (by kernel_rfl) (by kernel_rfl) (by kernel_rfl) (by kernel_rfl) (fun _ _ _ h => h) HF.out rfl ?_ rfl rfl ?_ ?_
            rotate_left
            · intro w' hF; clear hF; go_simp; try rfl
            rotate_left
            · simp only [Act.put]; exact rfl
            refine Calm.take (i := 8) (v := ?_) (a' := ?_) (l' := #[true, true, true, true, true, true, true, true, true, false, false, true, true, false, false, false]) (d := some 52) rfl (by kernel_rfl) (by kernel_rfl) (by kernel_rfl) (by kernel_rfl) (fun _ _ _ h => h) HF.out rfl ?_ rfl rfl ?_ ?_
            rotate_left
            · intro w' hF; clear hF; go_simp; try rfl
            rotate_left
            · simp only [Act.put]; exact rfl
            refine Calm.take (i := 9) (v := ?_) (a' := ?_) (l' := #[true, true, true, true, true, true, true, true, true, true, false, true, true, false, false, false]) (d := some 53) rfl (by kernel_rfl) (by kernel_rfl) (by kernel_rfl) (by kernel_rfl) (fun _ _ _ h => h) HF.out rfl ?_ rfl rfl ?_ ?_
            rotate_left
            · intro w' hF; clear hF; go_simp; try rfl
            rotate_left
            · simp only [Act.put]; exact rfl
            refine Calm.take (i := 10) (v := ?_) (a' := ?_) (l' := #[true, true, true, true, true, true, true, true, true, true, true, true, true, false, false, false]) (d := some 54) rfl (by kernel_rfl) (by kernel_rfl) (by kernel_rfl) (by kernel_rfl) (fun _ _ _ h => h) HF.out rfl ?_ rfl rfl ?_ ?_
            rotate_left
            · intro w' hF; clear hF; go_simp; try rfl
            rotate_left
            · simp only [Act.put]; exact rfl
            refine Calm.one (i := 13) (l' := #[true, true, true, true, true, true, true, true, true, true, true, true, true, true, false, false]) (by kernel_rfl) rfl rfl rfl fun K hK => ?_
            clear LTS
            have LTS := hide (And.intro (LT1q.out) (And.intro (LT2q.out) (And.intro (LT3q.out) (And.intro (LT4q.out) (And.intro (LT5q.out) (And.intro (LT6q.out) (And.intro (LT7q.out) (And.intro (LT1r.out) (And.intro (LT2r.out) (And.intro (LT3r.out) (And.intro (LT4r.out) (And.intro (LT5r.out) (And.intro (LT6r.out) (And.intro (LT7r.out) ((show gq ≠ gr by first | exact Nat.ne_of_lt LTqr.out | exact Nat.ne_of_gt LTrq.out))))))))))))))))
            have hc0 := BXq.out.cell0
            have hc1 := BXq.out.cell1
            have hf0 := BXq.out.free 0
            have hf1 := BXq.out.free 1
            go_simp
            have HF' := hide (And.intro (below_put HF.out.1 (show w.heap.size ≤ gq by have hx := LTS.out; omega) (.bool sv) (.slice mv nv cv)) (And.intro (HF.out.2.1.other (C := gq) (by have hx := LTS.out; omega) (.bool sv) (.slice mv nv cv)) (And.intro (HF.out.2.2.1.other (C := gq) (by have hx := LTS.out; omega) (.bool sv) (.slice mv nv cv)) (And.intro (HF.out.2.2.2.1.other (C := gq) (by have hx := LTS.out; omega) (.bool sv) (.slice mv nv cv)) (And.intro (HF.out.2.2.2.2.1.other (C := gq) (by have hx := LTS.out; omega) (.bool sv) (.slice mv nv cv)) (And.intro (HF.out.2.2.2.2.2.1.other (C := gq) (by have hx := LTS.out; omega) (.bool sv) (.slice mv nv cv)) (And.intro (HF.out.2.2.2.2.2.2.1.other (C := gq) (by have hx := LTS.out; omega) (.bool sv) (.slice mv nv cv)) (And.intro (HF.out.2.2.2.2.2.2.2.1.other (C := gq) (by have hx := LTS.out; omega) (.bool sv) (.slice mv nv cv)) (And.intro (HF.out.2.2.2.2.2.2.2.2.1.keep (BXq.out.keeps (by simp) (by simp) (.bool sv) (.slice mv nv cv))) (And.intro (HF.out.2.2.2.2.2.2.2.2.2.1.keep (BXq.out.keeps (by simp) (by simp) (.bool sv) (.slice mv nv cv))) (And.intro (HF.out.2.2.2.2.2.2.2.2.2.2.1.keep (BXq.out.keeps (by simp) (by simp) (.bool sv) (.slice mv nv cv))) (HF.out.2.2.2.2.2.2.2.2.2.2.2.keep (BXq.out.keeps (by simp) (by simp) (.bool sv) (.slice mv nv cv))))))))))))))
            replace TV := hide (TV.out.keep (BXq.out.keeps (by simp) (by simp) (.bool sv) (.slice mv nv cv)))
            replace TW := hide (TW.out.keep (BXq.out.keeps (by simp) (by simp) (.bool sv) (.slice mv nv cv)))
            replace BXr := hide (BXr.out.other (C := gq) (by have hx := LTS.out; omega) (.bool sv) (.slice mv nv cv))
            replace BXq := hide (BXq.out.put (.bool sv) (.slice mv nv cv))
            refine hK _ _ (fun _ => HF'.out) ?_
            clear hK K HF hc0 hf0 hc1 hf1
            have HF := hide HF'.out
            clear HF'
            generalize ((u3.setCell ⟨gq, 0, none⟩ (.bool sv)).setCell ⟨gq, 1, none⟩ (.slice mv nv cv)) = ws1 at *
            refine Calm.one (i := 14) (l' := #[true, true, true, true, true, true, true, true, true, true, true, true, true, true, true, false]) (by kernel_rfl) rfl rfl rfl fun K hK => ?_
            have hc0 := BXr.out.cell0
            have hc1 := BXr.out.cell1
            have hf0 := BXr.out.free 0
            have hf1 := BXr.out.free 1
            go_simp
            have HF' := hide (And.intro (below_put HF.out.1 (show w.heap.size ≤ gr by have hx := LTS.out; omega) (.bool sw) (.slice mw nw cw)) (And.intro (HF.out.2.1.other (C := gr) (by have hx := LTS.out; omega) (.bool sw) (.slice mw nw cw)) (And.intro (HF.out.2.2.1.other (C := gr) (by have hx := LTS.out; omega) (.bool sw) (.slice mw nw cw)) (And.intro (HF.out.2.2.2.1.other (C := gr) (by have hx := LTS.out; omega) (.bool sw) (.slice mw nw cw)) (And.intro (HF.out.2.2.2.2.1.other (C := gr) (by have hx := LTS.out; omega) (.bool sw) (.slice mw nw cw)) (And.intro (HF.out.2.2.2.2.2.1.other (C := gr) (by have hx := LTS.out; omega) (.bool sw) (.slice mw nw cw)) (And.intro (HF.out.2.2.2.2.2.2.1.other (C := gr) (by have hx := LTS.out; omega) (.bool sw) (.slice mw nw cw)) (And.intro (HF.out.2.2.2.2.2.2.2.1.other (C := gr) (by have hx := LTS.out; omega) (.bool sw) (.slice mw nw cw)) (And.intro (HF.out.2.2.2.2.2.2.2.2.1.keep (BXr.out.keeps (by simp) (by simp) (.bool sw) (.slice mw nw cw))) (And.intro (HF.out.2.2.2.2.2.2.2.2.2.1.keep (BXr.out.keeps (by simp) (by simp) (.bool sw) (.slice mw nw cw))) (And.intro (HF.out.2.2.2.2.2.2.2.2.2.2.1.keep (BXr.out.keeps (by simp) (by simp) (.bool sw) (.slice mw nw cw))) (HF.out.2.2.2.2.2.2.2.2.2.2.2.keep (BXr.out.keeps (by simp) (by simp) (.bool sw) (.slice mw nw cw))))))))))))))
            replace TV := hide (TV.out.keep (BXr.out.keeps (by simp) (by simp) (.bool sw) (.slice mw nw cw)))
            replace TW := hide (TW.out.keep (BXr.out.keeps (by simp) (by simp) (.bool sw) (.slice mw nw cw)))
            replace BXq := hide (BXq.out.other (C := gr) (by have hx := LTS.out; omega) (.bool sw) (.slice mw nw cw))
            replace BXr := hide (BXr.out.put (.bool sw) (.slice mw nw cw))
            refine hK _ _ (fun _ => HF'.out) ?_
            clear hK K HF hc0 hf0 hc1 hf1
            have HF := hide HF'.out
            clear HF'
            generalize ((ws1.setCell ⟨gr, 0, none⟩ (.bool sw)).setCell ⟨gr, 1, none⟩ (.slice mw nw cw)) = ws2 at *
            refine Calm.take (i := 15) (v := ?_) (a' := ?_) (l' := #[true, true, true, true, true, true, true, true, true, true, true, true, true, true, true, true]) (d := some 14) rfl (by kernel_rfl) (by kernel_rfl) (by kernel_rfl) (by kernel_rfl) (fun _ _ _ h => h) HF.out rfl ?_ rfl rfl ?_ ?_
            rotate_left
            · intro w' hF; clear hF; go_simp; try rfl
            rotate_left
            · simp only [Act.put]; exact rfl
            refine Calm.done (by kernel_rfl) ?_
            go_wp2
            go_meet
            case rel => exact ⟨gq, sv, mv, nv, cv, rfl, (by have hx := LTS.out; omega), ⟨HF.out.1, HF.out.2.2.2.1, HF.out.2.2.2.2.1, HF.out.2.2.2.2.2.1, HF.out.2.2.2.2.2.2.1, HF.out.2.2.2.2.2.2.2.1, HF.out.2.2.2.2.2.2.2.2.2.2.1, HF.out.2.2.2.2.2.2.2.2.2.2.2⟩, BXq.out, TV.out⟩
        · go_simp
          have al := below_alloc wzr (.cells #[.bool false, .slice none 0 0] 25)
          have HF' := hide (And.intro (HF.out.1.trans ((al).mono HF.out.1.size)) (And.intro (HF.out.2.1.step (al)) (And.intro (HF.out.2.2.1.step (al)) (And.intro (HF.out.2.2.2.1.step (al)) (And.intro (HF.out.2.2.2.2.1.step (al)) (And.intro (HF.out.2.2.2.2.2.1.step (al)) (And.intro (HF.out.2.2.2.2.2.2.1.step (al)) (And.intro (HF.out.2.2.2.2.2.2.2.1.step (al)) (And.intro (HF.out.2.2.2.2.2.2.2.2.1.below (al)) (And.intro (HF.out.2.2.2.2.2.2.2.2.2.1.below (al)) (And.intro (HF.out.2.2.2.2.2.2.2.2.2.2.1.below (al)) (HF.out.2.2.2.2.2.2.2.2.2.2.2.below (al)))))))))))))
          have BXq := hide (Box.new wzr (.bool false) (.slice none 0 0))
          have LTrq := hide (BXr.out.lt)
          replace BXr := hide (BXr.out.step al)
          have LT1q := hide (HF.out.2.1.lt)
          have LT2q := hide (HF.out.2.2.1.lt)
          have LT3q := hide (HF.out.2.2.2.1.lt)
          have LT4q := hide (HF.out.2.2.2.2.1.lt)
          have LT5q := hide (HF.out.2.2.2.2.2.1.lt)
          have LT6q := hide (HF.out.2.2.2.2.2.2.1.lt)
          have LT7q := hide (HF.out.2.2.2.2.2.2.2.1.lt)
          have GEq := hide (HF.out.1.size)
          refine hK _ _ (fun _ => HF'.out) ?_
          clear hK K HF al
          have HF := hide HF'.out
          clear HF'
          generalize wzr.alloc (.cells #[.bool false, .slice none 0 0] 25) = wzq at *
          generalize wzr.heap.size = gq at *
          refine Calm.one (i := 3) (l' := #[true, true, true, true, false, true, false, false, false, false, false, true, true, false, false, false]) (by kernel_rfl) rfl rfl rfl fun K hK => ?_
          go_simp
          refine (imul_any _ _ (u % (y / d)) x _ HF.out.2.2.2.2.2.2.2.2.2.2.2 HF.out.2.2.2.2.2.2.2.2.1 (SzI.len SN.out (by have := HK.out; omega)) (SzI.len SX.out (by have := HK.out; omega))).mono ?_
          rintro e u1 ⟨v, rfl, n, hb⟩
          replace BXr := hide (BXr.out.step hb)
          replace BXq := hide (BXq.out.step hb)
          have HF' := hide (And.intro (HF.out.1.trans ((hb).mono HF.out.1.size)) (And.intro (HF.out.2.1.step (hb)) (And.intro (HF.out.2.2.1.step (hb)) (And.intro (HF.out.2.2.2.1.step (hb)) (And.intro (HF.out.2.2.2.2.1.step (hb)) (And.intro (HF.out.2.2.2.2.2.1.step (hb)) (And.intro (HF.out.2.2.2.2.2.2.1.step (hb)) (And.intro (HF.out.2.2.2.2.2.2.2.1.step (hb)) (And.intro (HF.out.2.2.2.2.2.2.2.2.1.below (hb)) (And.intro (HF.out.2.2.2.2.2.2.2.2.2.1.below (hb)) (And.intro (HF.out.2.2.2.2.2.2.2.2.2.2.1.below (hb)) (HF.out.2.2.2.2.2.2.2.2.2.2.2.below (hb)))))))))))))
          have T1 := hide (n)
          refine hK _ _ (fun _ => HF'.out) ?_
          clear hK K HF hb n
          have HF := hide HF'.out
          clear HF'
          refine Calm.one (i := 4) (l' := #[true, true, true, true, true, true, false, false, false, false, false, true, true, false, false, false]) (by kernel_rfl) rfl rfl rfl fun K hK => ?_
          go_simp
          refine (isub_any _ _ d ((u % (y / d)) * x) _ HF.out.2.2.2.2.2.2.2.2.2.2.1 T1.out (SzI.len SGG.out (by have := HK.out; omega)) (SzI.len (SzI.mul SN.out SX.out) (by have := HK.out; omega))).mono ?_
          rintro e u2 ⟨v, rfl, n, hb⟩
          clear T1
          replace BXr := hide (BXr.out.step hb)
          replace BXq := hide (BXq.out.step hb)
          have HF' := hide (And.intro (HF.out.1.trans ((hb).mono HF.out.1.size)) (And.intro (HF.out.2.1.step (hb)) (And.intro (HF.out.2.2.1.step (hb)) (And.intro (HF.out.2.2.2.1.step (hb)) (And.intro (HF.out.2.2.2.2.1.step (hb)) (And.intro (HF.out.2.2.2.2.2.1.step (hb)) (And.intro (HF.out.2.2.2.2.2.2.1.step (hb)) (And.intro (HF.out.2.2.2.2.2.2.2.1.step (hb)) (And.intro (HF.out.2.2.2.2.2.2.2.2.1.below (hb)) (And.intro (HF.out.2.2.2.2.2.2.2.2.2.1.below (hb)) (And.intro (HF.out.2.2.2.2.2.2.2.2.2.2.1.below (hb)) (HF.out.2.2.2.2.2.2.2.2.2.2.2.below (hb)))))))))))))
          have T2 := hide (n)
          refine hK _ _ (fun _ => HF'.out) ?_
          clear hK K HF hb n
          have HF := hide HF'.out
          clear HF'
          refine Calm.one (i := 6) (l' := #[true, true, true, true, true, true, true, false, false, false, false, true, true, false, false, false]) (by kernel_rfl) rfl rfl rfl fun K hK => ?_
          go_simp
          refine (idivmod_any _ _ (d - (u % (y / d)) * x) y _ T2.out HF.out.2.2.2.2.2.2.2.2.2.1 (SzI.len (SzI.sub SGG.out (SzI.mul SN.out SX.out)) (by have := HK.out; omega)) (SzI.len SY.out (by have := HK.out; omega)) HY.out).mono ?_
          rintro e u3 ⟨a, b, rfl, na, nb, hb⟩
          obtain ⟨sv, mv, nv, cv, rfl, na⟩ := na.cells
          obtain ⟨sw, mw, nw, cw, rfl, nb⟩ := nb.cells
          clear T2
          replace BXr := hide (BXr.out.step hb)
          replace BXq := hide (BXq.out.step hb)
          have HF' := hide (And.intro (HF.out.1.trans ((hb).mono HF.out.1.size)) (And.intro (HF.out.2.1.step (hb)) (And.intro (HF.out.2.2.1.step (hb)) (And.intro (HF.out.2.2.2.1.step (hb)) (And.intro (HF.out.2.2.2.2.1.step (hb)) (And.intro (HF.out.2.2.2.2.2.1.step (hb)) (And.intro (HF.out.2.2.2.2.2.2.1.step (hb)) (And.intro (HF.out.2.2.2.2.2.2.2.1.step (hb)) (And.intro (HF.out.2.2.2.2.2.2.2.2.1.below (hb)) (And.intro (HF.out.2.2.2.2.2.2.2.2.2.1.below (hb)) (And.intro (HF.out.2.2.2.2.2.2.2.2.2.2.1.below (hb)) (HF.out.2.2.2.2.2.2.2.2.2.2.2.below (hb)))))))))))))
          have TV := hide (na)
          have TW := hide (nb)
          refine hK _ _ (fun _ => HF'.out) ?_
          clear hK K HF hb na nb
          have HF := hide HF'.out
          clear HF'
          refine Calm.take (i := 7) (v := ?_) (a' := ?_) (l' := #[true, true, true, true, true, true, true, true, false, false, false, true, true, false, false, false]) (d := some 44) rfl (by kernel_rfl) (by kernel_rfl) (by kernel_rfl) (by kernel_rfl) (fun _ _ _ h => h) HF.out rfl ?_ rfl rfl ?_ ?_
          rotate_left
          · intro w' hF; clear hF; go_simp; try rfl
          rotate_left
          · simp only [Act.put]; exact rfl
          refine Calm.take (i := 8) (v := ?_) (a' := ?_) (l' := #[true, true, true, true, true, true, true, true, true, false, false, true, true, false, false, false]) (d := some 52) rfl (by kernel_rfl) (by kernel_rfl) (by kernel_rfl) (by kernel_rfl) (fun _ _ _ h => h) HF.out rfl ?_ rfl rfl ?_ ?_
          rotate_left
          · intro w' hF; clear hF; go_simp; try rfl
          rotate_left
          · simp only [Act.put]; exact rfl
          refine Calm.take (i := 9) (v := ?_) (a' := ?_) (l' := #[true, true, true, true, true, true, true, true, true, true, false, true, true, false, false, false]) (d := some 53) rfl (by kernel_rfl) (by kernel_rfl) (by kernel_rfl) (by kernel_rfl) (fun _ _ _ h => h) HF.out rfl ?_ rfl rfl ?_ ?_
          rotate_left
          · intro w' hF; clear hF; go_simp; try rfl
          rotate_left
          · simp only [Act.put]; exact rfl
          refine Calm.take (i := 10) (v := ?_) (a' := ?_) (l' := #[true, true, true, true, true, true, true, true, true, true, true, true, true, false, false, false]) (d := some 54) rfl (by kernel_rfl) (by kernel_rfl) (by kernel_rfl) (by kernel_rfl) (fun _ _ _ h => h) HF.out rfl ?_ rfl rfl ?_ ?_
          rotate_left
          · intro w' hF; clear hF; go_simp; try rfl
          rotate_left
          · simp only [Act.put]; exact rfl
          refine Calm.one (i := 13) (l' := #[true, true, true, true, true, true, true, true, true, true, true, true, true, true, false, false]) (by kernel_rfl) rfl rfl rfl fun K hK => ?_
          clear LTS
          have LTS := hide (And.intro (LT1q.out) (And.intro (LT2q.out) (And.intro (LT3q.out) (And.intro (LT4q.out) (And.intro (LT5q.out) (And.intro (LT6q.out) (And.intro (LT7q.out) (And.intro (LT1r.out) (And.intro (LT2r.out) (And.intro (LT3r.out) (And.intro (LT4r.out) (And.intro (LT5r.out) (And.intro (LT6r.out) (And.intro (LT7r.out) ((show gq ≠ gr by first | exact Nat.ne_of_lt LTqr.out | exact Nat.ne_of_gt LTrq.out))))))))))))))))
          have hc0 := BXq.out.cell0
          have hc1 := BXq.out.cell1
          have hf0 := BXq.out.free 0
          have hf1 := BXq.out.free 1
          go_simp
          have HF' := hide (And.intro (below_put HF.out.1 (show w.heap.size ≤ gq by have hx := LTS.out; omega) (.bool sv) (.slice mv nv cv)) (And.intro (HF.out.2.1.other (C := gq) (by have hx := LTS.out; omega) (.bool sv) (.slice mv nv cv)) (And.intro (HF.out.2.2.1.other (C := gq) (by have hx := LTS.out; omega) (.bool sv) (.slice mv nv cv)) (And.intro (HF.out.2.2.2.1.other (C := gq) (by have hx := LTS.out; omega) (.bool sv) (.slice mv nv cv)) (And.intro (HF.out.2.2.2.2.1.other (C := gq) (by have hx := LTS.out; omega) (.bool sv) (.slice mv nv cv)) (And.intro (HF.out.2.2.2.2.2.1.other (C := gq) (by have hx := LTS.out; omega) (.bool sv) (.slice mv nv cv)) (And.intro (HF.out.2.2.2.2.2.2.1.other (C := gq) (by have hx := LTS.out; omega) (.bool sv) (.slice mv nv cv)) (And.intro (HF.out.2.2.2.2.2.2.2.1.other (C := gq) (by have hx := LTS.out; omega) (.bool sv) (.slice mv nv cv)) (And.intro (HF.out.2.2.2.2.2.2.2.2.1.keep (BXq.out.keeps (by simp) (by simp) (.bool sv) (.slice mv nv cv))) (And.intro (HF.out.2.2.2.2.2.2.2.2.2.1.keep (BXq.out.keeps (by simp) (by simp) (.bool sv) (.slice mv nv cv))) (And.intro (HF.out.2.2.2.2.2.2.2.2.2.2.1.keep (BXq.out.keeps (by simp) (by simp) (.bool sv) (.slice mv nv cv))) (HF.out.2.2.2.2.2.2.2.2.2.2.2.keep (BXq.out.keeps (by simp) (by simp) (.bool sv) (.slice mv nv cv))))))))))))))
          replace TV := hide (TV.out.keep (BXq.out.keeps (by simp) (by simp) (.bool sv) (.slice mv nv cv)))
          replace TW := hide (TW.out.keep (BXq.out.keeps (by simp) (by simp) (.bool sv) (.slice mv nv cv)))
          replace BXr := hide (BXr.out.other (C := gq) (by have hx := LTS.out; omega) (.bool sv) (.slice mv nv cv))
          replace BXq := hide (BXq.out.put (.bool sv) (.slice mv nv cv))
          refine hK _ _ (fun _ => HF'.out) ?_
          clear hK K HF hc0 hf0 hc1 hf1
          have HF := hide HF'.out
          clear HF'
          generalize ((u3.setCell ⟨gq, 0, none⟩ (.bool sv)).setCell ⟨gq, 1, none⟩ (.slice mv nv cv)) = ws1 at *
          refine Calm.one (i := 14) (l' := #[true, true, true, true, true, true, true, true, true, true, true, true, true, true, true, false]) (by kernel_rfl) rfl rfl rfl fun K hK => ?_
          have hc0 := BXr.out.cell0
          have hc1 := BXr.out.cell1
          have hf0 := BXr.out.free 0
          have hf1 := BXr.out.free 1
          go_simp
          have HF' := hide (And.intro (below_put HF.out.1 (show w.heap.size ≤ gr by have hx := LTS.out; omega) (.bool sw) (.slice mw nw cw)) (And.intro (HF.out.2.1.other (C := gr) (by have hx := LTS.out; omega) (.bool sw) (.slice mw nw cw)) (And.intro (HF.out.2.2.1.other (C := gr) (by have hx := LTS.out; omega) (.bool sw) (.slice mw nw cw)) (And.intro (HF.out.2.2.2.1.other (C := gr) (by have hx := LTS.out; omega) (.bool sw) (.slice mw nw cw)) (And.intro (HF.out.2.2.2.2.1.other (C := gr) (by have hx := LTS.out; omega) (.bool sw) (.slice mw nw cw)) (And.intro (HF.out.2.2.2.2.2.1.other (C := gr) (by have hx := LTS.out; omega) (.bool sw) (.slice mw nw cw)) (And.intro (HF.out.2.2.2.2.2.2.1.other (C := gr) (by have hx := LTS.out; omega) (.bool sw) (.slice mw nw cw)) (And.intro (HF.out.2.2.2.2.2.2.2.1.other (C := gr) (by have hx := LTS.out; omega) (.bool sw) (.slice mw nw cw)) (And.intro (HF.out.2.2.2.2.2.2.2.2.1.keep (BXr.out.keeps (by simp) (by simp) (.bool sw) (.slice mw nw cw))) (And.intro (HF.out.2.2.2.2.2.2.2.2.2.1.keep (BXr.out.keeps (by simp) (by simp) (.bool sw) (.slice mw nw cw))) (And.intro (HF.out.2.2.2.2.2.2.2.2.2.2.1.keep (BXr.out.keeps (by simp) (by simp) (.bool sw) (.slice mw nw cw))) (HF.out.2.2.2.2.2.2.2.2.2.2.2.keep (BXr.out.keeps (by simp) (by simp) (.bool sw) (.slice mw nw cw))))))))))))))
          replace TV := hide (TV.out.keep (BXr.out.keeps (by simp) (by simp) (.bool sw) (.slice mw nw cw)))
          replace TW := hide (TW.out.keep (BXr.out.keeps (by simp) (by simp) (.bool sw) (.slice mw nw cw)))
          replace BXq := hide (BXq.out.other (C := gr) (by have hx := LTS.out; omega) (.bool sw) (.slice mw nw cw))
          replace BXr := hide (BXr.out.put (.bool sw) (.slice mw nw cw))
          refine hK _ _ (fun _ => HF'.out) ?_
          clear hK K HF hc0 hf0 hc1 hf1
          have HF := hide HF'.out
          clear HF'
          generalize ((ws1.setCell ⟨gr, 0, none⟩ (.bool sw)).setCell ⟨gr, 1, none⟩ (.slice mw nw cw)) = ws2 at *
          refine Calm.take (i := 15) (v := ?_) (a' := ?_) (l' := #[true, true, true, true, true, true, true, true, true, true, true, true, true, true, true, true]) (d := some 14) rfl (by kernel_rfl) (by kernel_rfl) (by kernel_rfl) (by kernel_rfl) (fun _ _ _ h => h) HF.out rfl ?_ rfl rfl ?_ ?_
          rotate_left
          · intro w' hF; clear hF; go_simp; try rfl
          rotate_left
          · simp only [Act.put]; exact rfl
          refine Calm.done (by kernel_rfl) ?_
          go_wp2
          go_meet
          case rel => exact ⟨gq, sv, mv, nv, cv, rfl, (by have hx := LTS.out; omega), ⟨HF.out.1, HF.out.2.2.2.1, HF.out.2.2.2.2.1, HF.out.2.2.2.2.2.1, HF.out.2.2.2.2.2.2.1, HF.out.2.2.2.2.2.2.2.1, HF.out.2.2.2.2.2.2.2.2.2.2.1, HF.out.2.2.2.2.2.2.2.2.2.2.2⟩, BXq.out, TV.out⟩
    case rest =>
      obtain ⟨gq, sv, mv, nv, cv, rfl, hgq, ⟨hHB, hP2, hP3, hP4, hPG, hPU, hIg, hIn⟩, hPV, hIV⟩ := hcut
      clear HB P0 P1 P2 P3 P4 PG PU Ix Iy Ig In
      have HB := hide hHB
      have P2 := hide hP2
      have P3 := hide hP3
      have P4 := hide hP4
      have PG := hide hPG
      have PU := hide hPU
      have Ig := hide hIg
      have In := hide hIn
      have PV := hide hPV
      have IV := hide hIV
      clear hHB hP2 hP3 hP4 hPG hPU hIg hIn hPV hIV
      generalize hwc : wc = w6 at *
      clear hwc
      have cg0 := PG.out.cell0
      have cg1 := PG.out.cell1
      have cu0 := PU.out.cell0
      have cu1 := PU.out.cell1
      have cv0 := PV.out.cell0
      have cv1 := PV.out.cell1
      have cp0 := P2.out.cell0
      have cp1 := P2.out.cell1
      have cq0 := P3.out.cell0
      have cq1 := P3.out.cell1
      have cr0 := P4.out.cell0
      have cr1 := P4.out.cell1
      have fp0 := P2.out.free 0
      have fp1 := P2.out.free 1
      have fq0 := P3.out.free 0
      have fq1 := P3.out.free 1
      have fr0 := P4.out.free 0
      have fr1 := P4.out.free 1
      have hl1 := LTG0.out
      go_wp2_with fail
      go_region
      all_goals
        go_wp2
        refine ret_iii rfl (w.heap.size + 1 + 1) (w.heap.size + 1 + 1 + 1) (w.heap.size + 1 + 1 + 1 + 1) _ _ _ _ _ _ rfl rfl rfl (((P2.out.put (.bool sg) (.slice mg ng cg)).other (C := (w.heap.size + 1 + 1 + 1)) (by omega) (.bool sn) (.slice mn nn cn)).other (C := (w.heap.size + 1 + 1 + 1 + 1)) (by omega) (.bool sv) (.slice mv nv cv)).drew (((P3.out.other (C := (w.heap.size + 1 + 1)) (by omega) (.bool sg) (.slice mg ng cg)).put (.bool sn) (.slice mn nn cn)).other (C := (w.heap.size + 1 + 1 + 1 + 1)) (by omega) (.bool sv) (.slice mv nv cv)).drew (((P4.out.other (C := (w.heap.size + 1 + 1)) (by omega) (.bool sg) (.slice mg ng cg)).other (C := (w.heap.size + 1 + 1 + 1)) (by omega) (.bool sn) (.slice mn nn cn)).put (.bool sv) (.slice mv nv cv)).drew rfl ?_
        have hk1 := P2.out.keeps (by simp) (by simp) (.bool sg) (.slice mg ng cg)
        have hk2 := (P3.out.other (C := (w.heap.size + 1 + 1)) (by omega) (.bool sg) (.slice mg ng cg)).keeps (by simp) (by simp) (.bool sn) (.slice mn nn cn)
        have hk3 := ((P4.out.other (C := (w.heap.size + 1 + 1)) (by omega) (.bool sg) (.slice mg ng cg)).other (C := (w.heap.size + 1 + 1 + 1)) (by omega) (.bool sn) (.slice mn nn cn)).keeps (by simp) (by simp) (.bool sv) (.slice mv nv cv)
        exact ⟨_, _, _, _, _, _, rfl, (((Ig.out.keep hk1).keep hk2).keep hk3).drew, (((In.out.keep hk1).keep hk2).keep hk3).drew, (((IV.out.keep hk1).keep hk2).keep hk3).drew, BF.out.2.2, (below_put (below_put (below_put HB.out (by omega) (.bool sg) (.slice mg ng cg)) (by omega) (.bool sn) (.slice mn nn cn)) (by omega) (.bool sv) (.slice mv nv cv)).drew⟩
end Go.Proofs.YteogbhgogiaocaaDoor
