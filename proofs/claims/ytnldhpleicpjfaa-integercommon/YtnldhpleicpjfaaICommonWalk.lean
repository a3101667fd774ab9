/- swagelaw02.IntegerCommon answers true at all numbers, and turns nothing that was there. -/
import Derived.Test.YtnldhpleicpjfaaR2Gcd
import Derived.Test.YtnldhpleicpjfaaIBez
import Derived.Deep.Cut
namespace Go.Proofs.Ytnldhpleicpjfaa
open Go.RowKit

theorem SzI.dl7 {k : Nat} {z : Int} (h : SzI k z) (hk : 2 * k ≤ 10000000) : (D.lim z.natAbs).length ≤ 10000000 := by
  refine Nat.le_trans (D.lim_length_le (k := 2 * k) ?_) hk
  have : BB ^ k = D.BB ^ (2 * k) := bb_pow k
  unfold SzI at h
  rw [← this]; exact h
theorem gcd_sz {k : Nat} {x y : Int} (h1 : SzI k x) (h2 : SzI k y) : SzI k (Int.gcd x y : Int) := by
  by_cases hy : y = 0
  · subst hy; rw [Int.gcd_zero_right]; exact h1.abs
  · exact Nat.lt_of_le_of_lt (gcd_abs_le hy) h2
theorem bez_sz {k : Nat} {x y g u v : Int} (h : BezAt x y g u v) (h1 : SzI k x) (h2 : SzI k y) (hk : 1 ≤ k) : SzI k u ∧ SzI (2 * k + 1) v := by
  obtain ⟨hg, hs, hz, hn⟩ := h
  by_cases hy : y = 0
  · obtain ⟨rfl, rfl⟩ := hz hy
    exact ⟨SzI.mono (j := 1) (by unfold SzI sgnI; split <;> (try split) <;> decide) hk, SzI.mono SzI.zero (Nat.zero_le _)⟩
  · obtain ⟨h0, hl⟩ := hn hy
    have hgp : 0 ≤ g := by rw [hg]; omega
    have hu : u.natAbs ≤ y.natAbs := by
      have : (y.natAbs : Int) / g ≤ y.natAbs := by
        have hd := Int.natAbs_ediv_le_natAbs (y.natAbs : Int) g
        have hp : 0 ≤ (y.natAbs : Int) / g := Int.ediv_nonneg (by omega) hgp
        omega
      omega
    have su : SzI k u := Nat.lt_of_le_of_lt hu h2
    refine ⟨su, ?_⟩
    have sg : SzI k g := by rw [hg]; exact gcd_sz h1 h2
    have e : v * y = g - u * x := by omega
    have hv : v.natAbs ≤ (g - u * x).natAbs := by
      rw [← e, Int.natAbs_mul]
      exact Nat.le_mul_of_pos_right _ (by omega)
    have := SzI.sub sg (SzI.mul su h1)
    exact SzI.mono (Nat.lt_of_le_of_lt hv this) (by omega)
theorem sg_dec (z : Int) : sg (decide (z < 0)) (val (lim z.natAbs)) = z := by
  rw [val_lim]
  by_cases h : z < 0
  · rw [decide_eq_true h, sg_true]; omega
  · rw [decide_eq_false h, sg_false]; omega
theorem sgnI_nonneg {z : Int} (h : 0 ≤ z) : sgnI z = 0 ∨ sgnI z = 1 := by unfold sgnI; split <;> (try split) <;> omega
theorem sgnI_nez {z : Int} (h : z ≠ 0) : (sgnI z == 0) = false := by rw [beq_eq_false_iff_ne]; unfold sgnI; split <;> (try split) <;> omega

set_option maxRecDepth 100000 in
set_option maxHeartbeats 2000000 in
theorem rsame_yes (v1 v2 : Value) (x : Int) (w : World) (h1 : RInt w v1 x) (h2 : RInt w v2 x) :
    Calls Try.prog 16 #[v1, v2] w fun e w' => e = .returned (.bool true) ∧ Below w.heap.size w w' := by
  obtain ⟨s1, m1, n1, c1, rfl, i1⟩ := h1.cells
  obtain ⟨s2, m2, n2, c2, rfl, i2⟩ := h2.cells
  have HE := hide (nboxes2 30 w (.bool s1) (.slice m1 n1 c1) (.bool s2) (.slice m2 n2 c2))
  have I1 := hide (i1.below HE.out.2.2)
  have I2 := hide (i2.below HE.out.2.2)
  have HB := hide HE.out.2.2
  clear h1 h2 i1 i2 HE
  go_enter Try.func16, Try.ntmps16
  go_wp2_with fail
  refine (rcmp_any _ _ x x _ I1.out I2.out).mono ?_
  rintro e w1 ⟨rfl, hb⟩
  have hz : cmpZ x x = 0 := by unfold cmpZ; rw [if_neg (by omega), if_pos rfl]
  rw [hz]
  replace HB := hide (HB.out.trans (hb.mono HB.out.size))
  clear hb hz I1 I2
  go_wp2
  go_ret
  exact ⟨rfl, HB.out⟩

set_option maxRecDepth 100000 in
set_option maxHeartbeats 20000000 in
theorem icommon_walk (b0 b1 : Bool) (a0 a1 : Option Addr) (c0 c1 : Nat) (xs ys : List Nat) (w : World) (h0 : Nums w (.slice a0 xs.length c0) xs) (h1 : Nums w (.slice a1 ys.length c1) ys) :
    Calls Try.prog 3 #[.agg #[.bool b0, .slice a0 xs.length c0], .agg #[.bool b1, .slice a1 ys.length c1]] w fun e w' => e = .returned (.bool true) ∧ Below w.heap.size w w' := by
  have hm0 := nums_len h0
  have hm1 := nums_len h1
  have HM := hide (And.intro hm0 hm1)
  unfold maxLen at hm0 hm1
  have HN0 := hide h0
  have HN1 := hide h1
  clear h0 h1
  have HE := hide (nboxes2 24 w (.bool b0) (.slice a0 xs.length c0) (.bool b1) (.slice a1 ys.length c1))
  have HB := hide (HE.out.2.2)
  have P0 := hide (HE.out.1)
  have P1 := hide (HE.out.2.1)
  replace HN0 := hide (HN0.out.below HE.out.2.2)
  replace HN1 := hide (HN1.out.below HE.out.2.2)
  clear HE
  go_enter Try.func3, Try.ntmps3
  go_wp2_with fail
  refine (live_any _).mono ?_
  rintro e w1 ⟨rfl, hb⟩
  replace HB := hide (HB.out.trans ((hb).mono HB.out.size))
  replace P0 := hide (P0.out.step (hb))
  replace P1 := hide (P1.out.step (hb))
  replace HN0 := hide (HN0.out.below (hb))
  replace HN1 := hide (HN1.out.below (hb))
  have p00 := P0.out.cell0
  have p01 := P0.out.cell1
  have p10 := P1.out.cell0
  have p11 := P1.out.cell1
  clear hb
  go_wp2_with fail
  refine (long_any _ [xs.length, ys.length] _ (lens_lit _ _ (by simp [maxLen]) (by
    intro i hi
    match i, hi with
    | 0, _ => exact ⟨a0, c0, by simp, HM.out.1⟩
    | 1, _ => exact ⟨a1, c1, by simp, HM.out.2⟩))).mono ?_
  rintro e w2 ⟨he, hb⟩
  clear p00 p01 p10 p11
  have hb' := (below_alloc w1 _).trans (hb.mono (by simp))
  replace HB := hide (HB.out.trans ((hb').mono HB.out.size))
  replace P0 := hide (P0.out.step (hb'))
  replace P1 := hide (P1.out.step (hb'))
  replace HN0 := hide (HN0.out.below (hb'))
  replace HN1 := hide (HN1.out.below (hb'))
  clear hb hb'
  cases hq : [xs.length, ys.length].any (fun m => decide (60 < m)) with
  | true =>
    rw [hq] at he
    subst he
    clear hq
    go_wp2
    go_ret
    exact ⟨rfl, HB.out⟩
  | false =>
  rw [hq] at he
  subst he
  obtain ⟨g0, g1⟩ : xs.length ≤ 60 ∧ ys.length ≤ 60 := by
    simp at hq; omega
  clear hq
  have SX : Hid (SzI 60 (sg b0 (val xs))) := SzI.of HN0.out.ok g0
  have SY : Hid (SzI 60 (sg b1 (val ys))) := SzI.of HN1.out.ok g1
  have GG := hide (And.intro g0 g1)
  clear g0 g1
  have p00 := P0.out.cell0
  have p01 := P0.out.cell1
  have p10 := P1.out.cell0
  have p11 := P1.out.cell1
  go_wp2_with fail
  refine (of_any b0 a0 c0 xs _ HN0.out (by have := GG.out; omega)).mono ?_
  rintro e q0 ⟨v, u, rfl, hI, hR, hb⟩
  obtain ⟨sx, nx, mx, kx, rfl, hn, he, h0⟩ := hI
  obtain ⟨sp, np, mp, kp, rfl, hn', he', h0'⟩ := hR
  clear p00 p01 p10 p11
  replace HB := hide (HB.out.trans ((hb).mono HB.out.size))
  replace P0 := hide (P0.out.step (hb))
  replace P1 := hide (P1.out.step (hb))
  replace HN0 := hide (HN0.out.below (hb))
  replace HN1 := hide (HN1.out.below (hb))
  have hI : IntAt q0 (.agg #[.bool sx, .slice mx (lim nx).length kx]) (sg b0 (val xs)) := ⟨sx, nx, mx, kx, rfl, hn, he, h0⟩
  have hR : RInt q0 (.agg #[.bool sp, .slice mp (D.lim np).length kp]) (sg b0 (val xs)) := ⟨sp, np, mp, kp, rfl, hn', he', h0'⟩
  replace HB := hide (HB.out.trans ((below_alloc q0 (.cells #[.bool sx, .slice mx (lim nx).length kx] 28)).mono HB.out.size))
  replace P0 := hide (P0.out.step (below_alloc q0 (.cells #[.bool sx, .slice mx (lim nx).length kx] 28)))
  replace P1 := hide (P1.out.step (below_alloc q0 (.cells #[.bool sx, .slice mx (lim nx).length kx] 28)))
  replace HN0 := hide (HN0.out.below (below_alloc q0 (.cells #[.bool sx, .slice mx (lim nx).length kx] 28)))
  replace HN1 := hide (HN1.out.below (below_alloc q0 (.cells #[.bool sx, .slice mx (lim nx).length kx] 28)))
  have Vx := hide (hI.var)
  have hR2 := hR.below (below_alloc q0 (.cells #[.bool sx, .slice mx (lim nx).length kx] 28))
  replace HB := hide (HB.out.trans ((below_alloc (q0.alloc (.cells #[.bool sx, .slice mx (lim nx).length kx] 28)) (.cells #[.bool sp, .slice mp (D.lim np).length kp] 30)).mono HB.out.size))
  replace P0 := hide (P0.out.step (below_alloc (q0.alloc (.cells #[.bool sx, .slice mx (lim nx).length kx] 28)) (.cells #[.bool sp, .slice mp (D.lim np).length kp] 30)))
  replace P1 := hide (P1.out.step (below_alloc (q0.alloc (.cells #[.bool sx, .slice mx (lim nx).length kx] 28)) (.cells #[.bool sp, .slice mp (D.lim np).length kp] 30)))
  replace HN0 := hide (HN0.out.below (below_alloc (q0.alloc (.cells #[.bool sx, .slice mx (lim nx).length kx] 28)) (.cells #[.bool sp, .slice mp (D.lim np).length kp] 30)))
  replace HN1 := hide (HN1.out.below (below_alloc (q0.alloc (.cells #[.bool sx, .slice mx (lim nx).length kx] 28)) (.cells #[.bool sp, .slice mp (D.lim np).length kp] 30)))
  replace Vx := hide (Vx.out.step (below_alloc (q0.alloc (.cells #[.bool sx, .slice mx (lim nx).length kx] 28)) (.cells #[.bool sp, .slice mp (D.lim np).length kp] 30)))
  have Vp := hide (hR2.var)
  rw [World.size_alloc] at Vp
  clear hb hn he h0 hn' he' h0' hI hR hR2
  have p00 := P0.out.cell0
  have p01 := P0.out.cell1
  have p10 := P1.out.cell0
  have p11 := P1.out.cell1
  go_wp2_with fail
  refine (of_any b1 a1 c1 ys _ HN1.out (by have := GG.out; omega)).mono ?_
  rintro e q1 ⟨v, u, rfl, hI, hR, hb⟩
  obtain ⟨sy, ny, my, ky, rfl, hn, he, h0⟩ := hI
  obtain ⟨sq, nq, mq, kq, rfl, hn', he', h0'⟩ := hR
  clear p00 p01 p10 p11
  replace HB := hide (HB.out.trans ((hb).mono HB.out.size))
  replace P0 := hide (P0.out.step (hb))
  replace P1 := hide (P1.out.step (hb))
  replace HN0 := hide (HN0.out.below (hb))
  replace HN1 := hide (HN1.out.below (hb))
  replace Vx := hide (Vx.out.step (hb))
  replace Vp := hide (Vp.out.step (hb))
  have hI : IntAt q1 (.agg #[.bool sy, .slice my (lim ny).length ky]) (sg b1 (val ys)) := ⟨sy, ny, my, ky, rfl, hn, he, h0⟩
  have hR : RInt q1 (.agg #[.bool sq, .slice mq (D.lim nq).length kq]) (sg b1 (val ys)) := ⟨sq, nq, mq, kq, rfl, hn', he', h0'⟩
  replace HB := hide (HB.out.trans ((below_alloc q1 (.cells #[.bool sy, .slice my (lim ny).length ky] 28)).mono HB.out.size))
  replace P0 := hide (P0.out.step (below_alloc q1 (.cells #[.bool sy, .slice my (lim ny).length ky] 28)))
  replace P1 := hide (P1.out.step (below_alloc q1 (.cells #[.bool sy, .slice my (lim ny).length ky] 28)))
  replace HN0 := hide (HN0.out.below (below_alloc q1 (.cells #[.bool sy, .slice my (lim ny).length ky] 28)))
  replace HN1 := hide (HN1.out.below (below_alloc q1 (.cells #[.bool sy, .slice my (lim ny).length ky] 28)))
  replace Vx := hide (Vx.out.step (below_alloc q1 (.cells #[.bool sy, .slice my (lim ny).length ky] 28)))
  replace Vp := hide (Vp.out.step (below_alloc q1 (.cells #[.bool sy, .slice my (lim ny).length ky] 28)))
  have Vy := hide (hI.var)
  have hR2 := hR.below (below_alloc q1 (.cells #[.bool sy, .slice my (lim ny).length ky] 28))
  replace HB := hide (HB.out.trans ((below_alloc (q1.alloc (.cells #[.bool sy, .slice my (lim ny).length ky] 28)) (.cells #[.bool sq, .slice mq (D.lim nq).length kq] 30)).mono HB.out.size))
  replace P0 := hide (P0.out.step (below_alloc (q1.alloc (.cells #[.bool sy, .slice my (lim ny).length ky] 28)) (.cells #[.bool sq, .slice mq (D.lim nq).length kq] 30)))
  replace P1 := hide (P1.out.step (below_alloc (q1.alloc (.cells #[.bool sy, .slice my (lim ny).length ky] 28)) (.cells #[.bool sq, .slice mq (D.lim nq).length kq] 30)))
  replace HN0 := hide (HN0.out.below (below_alloc (q1.alloc (.cells #[.bool sy, .slice my (lim ny).length ky] 28)) (.cells #[.bool sq, .slice mq (D.lim nq).length kq] 30)))
  replace HN1 := hide (HN1.out.below (below_alloc (q1.alloc (.cells #[.bool sy, .slice my (lim ny).length ky] 28)) (.cells #[.bool sq, .slice mq (D.lim nq).length kq] 30)))
  replace Vx := hide (Vx.out.step (below_alloc (q1.alloc (.cells #[.bool sy, .slice my (lim ny).length ky] 28)) (.cells #[.bool sq, .slice mq (D.lim nq).length kq] 30)))
  replace Vp := hide (Vp.out.step (below_alloc (q1.alloc (.cells #[.bool sy, .slice my (lim ny).length ky] 28)) (.cells #[.bool sq, .slice mq (D.lim nq).length kq] 30)))
  replace Vy := hide (Vy.out.step (below_alloc (q1.alloc (.cells #[.bool sy, .slice my (lim ny).length ky] 28)) (.cells #[.bool sq, .slice mq (D.lim nq).length kq] 30)))
  have Vq := hide (hR2.var)
  rw [World.size_alloc] at Vq
  clear hb hn he h0 hn' he' h0' hI hR hR2
  clear P0
  clear P1
  clear HN0
  clear HN1
  clear GG
  go_upto_region 7 with fail
  generalize sg b0 (val xs) = X at *
  generalize sg b1 (val ys) = Y at *
  generalize q0.heap.size = gx at *
  generalize q1.heap.size = gy at *
  generalize (q1.alloc (.cells #[.bool sy, .slice my (lim ny).length ky] 28)).alloc (.cells #[.bool sq, .slice mq (D.lim nq).length kq] 30) = w7 at *
  generalize (lim nx).length = lx at *
  generalize (lim ny).length = ly at *
  generalize (D.lim np).length = lp at *
  generalize (D.lim nq).length = lq at *
  have p0 := Vp.out.box.cell0
  have p1 := Vp.out.box.cell1
  have d0 := Vq.out.box.cell0
  have d1 := Vq.out.box.cell1
  go_wp2_with fail
  refine (rgcd_any _ _ X Y _ Vp.out.int Vq.out.int (SzI.dl7 SX.out (by decide)) (SzI.dl7 SY.out (by decide))).mono ?_
  rintro e r1 ⟨v, rfl, nn, hb⟩
  obtain ⟨sw, mw, lw, kw, rfl, nn⟩ := nn.cells
  clear p0 p1 d0 d1
  replace HB := hide (HB.out.trans ((hb).mono HB.out.size))
  replace Vx := hide (Vx.out.step (hb))
  replace Vp := hide (Vp.out.step (hb))
  replace Vy := hide (Vy.out.step (hb))
  replace Vq := hide (Vq.out.step (hb))
  have Tw := hide (nn)
  clear hb nn
  have SD := hide (gcd_sz SX.out SY.out)
  go_upto_region 8 with fail
  replace HB := hide (HB.out.trans ((below_alloc r1 (.cells #[.bool sw, .slice mw lw kw] 30)).mono HB.out.size))
  replace Vx := hide (Vx.out.step (below_alloc r1 (.cells #[.bool sw, .slice mw lw kw] 30)))
  replace Vp := hide (Vp.out.step (below_alloc r1 (.cells #[.bool sw, .slice mw lw kw] 30)))
  replace Vy := hide (Vy.out.step (below_alloc r1 (.cells #[.bool sw, .slice mw lw kw] 30)))
  replace Vq := hide (Vq.out.step (below_alloc r1 (.cells #[.bool sw, .slice mw lw kw] 30)))
  replace Tw := hide (Tw.out.below (below_alloc r1 (.cells #[.bool sw, .slice mw lw kw] 30)))
  have Bw := hide (Box2.new r1 30 (.bool sw) (.slice mw lw kw))
  generalize (r1.alloc (.cells #[.bool sw, .slice mw lw kw] 30)) = r2 at *
  generalize r1.heap.size = gw at *
  have p0 := Vx.out.box.cell0
  have p1 := Vx.out.box.cell1
  have d0 := Vy.out.box.cell0
  have d1 := Vy.out.box.cell1
  go_wp2_with fail
  refine (ibezout_any _ _ X Y 60 _ Vx.out.int Vy.out.int SX.out SY.out (by decide)).mono ?_
  rintro e r3 ⟨a, b, c, g, u, v, rfl, na, nb, nc, hbz, hb⟩
  obtain ⟨sg, mg, lg, kg, rfl, na⟩ := na.cells
  obtain ⟨su, mu, lu, ku, rfl, nb⟩ := nb.cells
  obtain ⟨sv, mv, lv, kv, rfl, nc⟩ := nc.cells
  clear p0 p1 d0 d1
  replace HB := hide (HB.out.trans ((hb).mono HB.out.size))
  replace Vx := hide (Vx.out.step (hb))
  replace Vp := hide (Vp.out.step (hb))
  replace Vy := hide (Vy.out.step (hb))
  replace Vq := hide (Vq.out.step (hb))
  replace Tw := hide (Tw.out.below (hb))
  replace Bw := hide (Bw.out.step (hb))
  have Tg := hide (na)
  have Tu := hide (nb)
  have Tv := hide (nc)
  have BZ := hide hbz
  clear hb na nb nc hbz
  have SUV := hide (bez_sz BZ.out SX.out SY.out (by decide))
  have GEQ := hide BZ.out.1
  rw [GEQ.out] at Tg BZ
  go_upto_region 9 with fail
  replace HB := hide (HB.out.trans ((below_alloc r3 (.cells #[.bool sg, .slice mg lg kg] 28)).mono HB.out.size))
  replace Vx := hide (Vx.out.step (below_alloc r3 (.cells #[.bool sg, .slice mg lg kg] 28)))
  replace Vp := hide (Vp.out.step (below_alloc r3 (.cells #[.bool sg, .slice mg lg kg] 28)))
  replace Vy := hide (Vy.out.step (below_alloc r3 (.cells #[.bool sg, .slice mg lg kg] 28)))
  replace Vq := hide (Vq.out.step (below_alloc r3 (.cells #[.bool sg, .slice mg lg kg] 28)))
  replace Tw := hide (Tw.out.below (below_alloc r3 (.cells #[.bool sg, .slice mg lg kg] 28)))
  replace Bw := hide (Bw.out.step (below_alloc r3 (.cells #[.bool sg, .slice mg lg kg] 28)))
  replace Tg := hide (Tg.out.below (below_alloc r3 (.cells #[.bool sg, .slice mg lg kg] 28)))
  replace Tu := hide (Tu.out.below (below_alloc r3 (.cells #[.bool sg, .slice mg lg kg] 28)))
  replace Tv := hide (Tv.out.below (below_alloc r3 (.cells #[.bool sg, .slice mg lg kg] 28)))
  have Bg := hide (Box.new r3 (.bool sg) (.slice mg lg kg))
  replace HB := hide (HB.out.trans ((below_alloc (r3.alloc (.cells #[.bool sg, .slice mg lg kg] 28)) (.cells #[.bool su, .slice mu lu ku] 28)).mono HB.out.size))
  replace Vx := hide (Vx.out.step (below_alloc (r3.alloc (.cells #[.bool sg, .slice mg lg kg] 28)) (.cells #[.bool su, .slice mu lu ku] 28)))
  replace Vp := hide (Vp.out.step (below_alloc (r3.alloc (.cells #[.bool sg, .slice mg lg kg] 28)) (.cells #[.bool su, .slice mu lu ku] 28)))
  replace Vy := hide (Vy.out.step (below_alloc (r3.alloc (.cells #[.bool sg, .slice mg lg kg] 28)) (.cells #[.bool su, .slice mu lu ku] 28)))
  replace Vq := hide (Vq.out.step (below_alloc (r3.alloc (.cells #[.bool sg, .slice mg lg kg] 28)) (.cells #[.bool su, .slice mu lu ku] 28)))
  replace Tw := hide (Tw.out.below (below_alloc (r3.alloc (.cells #[.bool sg, .slice mg lg kg] 28)) (.cells #[.bool su, .slice mu lu ku] 28)))
  replace Bw := hide (Bw.out.step (below_alloc (r3.alloc (.cells #[.bool sg, .slice mg lg kg] 28)) (.cells #[.bool su, .slice mu lu ku] 28)))
  replace Tg := hide (Tg.out.below (below_alloc (r3.alloc (.cells #[.bool sg, .slice mg lg kg] 28)) (.cells #[.bool su, .slice mu lu ku] 28)))
  replace Tu := hide (Tu.out.below (below_alloc (r3.alloc (.cells #[.bool sg, .slice mg lg kg] 28)) (.cells #[.bool su, .slice mu lu ku] 28)))
  replace Tv := hide (Tv.out.below (below_alloc (r3.alloc (.cells #[.bool sg, .slice mg lg kg] 28)) (.cells #[.bool su, .slice mu lu ku] 28)))
  replace Bg := hide (Bg.out.step (below_alloc (r3.alloc (.cells #[.bool sg, .slice mg lg kg] 28)) (.cells #[.bool su, .slice mu lu ku] 28)))
  have Bu := hide (Box.new (r3.alloc (.cells #[.bool sg, .slice mg lg kg] 28)) (.bool su) (.slice mu lu ku))
  simp only [World.size_alloc] at Bu
  replace HB := hide (HB.out.trans ((below_alloc ((r3.alloc (.cells #[.bool sg, .slice mg lg kg] 28)).alloc (.cells #[.bool su, .slice mu lu ku] 28)) (.cells #[.bool sv, .slice mv lv kv] 28)).mono HB.out.size))
  replace Vx := hide (Vx.out.step (below_alloc ((r3.alloc (.cells #[.bool sg, .slice mg lg kg] 28)).alloc (.cells #[.bool su, .slice mu lu ku] 28)) (.cells #[.bool sv, .slice mv lv kv] 28)))
  replace Vp := hide (Vp.out.step (below_alloc ((r3.alloc (.cells #[.bool sg, .slice mg lg kg] 28)).alloc (.cells #[.bool su, .slice mu lu ku] 28)) (.cells #[.bool sv, .slice mv lv kv] 28)))
  replace Vy := hide (Vy.out.step (below_alloc ((r3.alloc (.cells #[.bool sg, .slice mg lg kg] 28)).alloc (.cells #[.bool su, .slice mu lu ku] 28)) (.cells #[.bool sv, .slice mv lv kv] 28)))
  replace Vq := hide (Vq.out.step (below_alloc ((r3.alloc (.cells #[.bool sg, .slice mg lg kg] 28)).alloc (.cells #[.bool su, .slice mu lu ku] 28)) (.cells #[.bool sv, .slice mv lv kv] 28)))
  replace Tw := hide (Tw.out.below (below_alloc ((r3.alloc (.cells #[.bool sg, .slice mg lg kg] 28)).alloc (.cells #[.bool su, .slice mu lu ku] 28)) (.cells #[.bool sv, .slice mv lv kv] 28)))
  replace Bw := hide (Bw.out.step (below_alloc ((r3.alloc (.cells #[.bool sg, .slice mg lg kg] 28)).alloc (.cells #[.bool su, .slice mu lu ku] 28)) (.cells #[.bool sv, .slice mv lv kv] 28)))
  replace Tg := hide (Tg.out.below (below_alloc ((r3.alloc (.cells #[.bool sg, .slice mg lg kg] 28)).alloc (.cells #[.bool su, .slice mu lu ku] 28)) (.cells #[.bool sv, .slice mv lv kv] 28)))
  replace Tu := hide (Tu.out.below (below_alloc ((r3.alloc (.cells #[.bool sg, .slice mg lg kg] 28)).alloc (.cells #[.bool su, .slice mu lu ku] 28)) (.cells #[.bool sv, .slice mv lv kv] 28)))
  replace Tv := hide (Tv.out.below (below_alloc ((r3.alloc (.cells #[.bool sg, .slice mg lg kg] 28)).alloc (.cells #[.bool su, .slice mu lu ku] 28)) (.cells #[.bool sv, .slice mv lv kv] 28)))
  replace Bg := hide (Bg.out.step (below_alloc ((r3.alloc (.cells #[.bool sg, .slice mg lg kg] 28)).alloc (.cells #[.bool su, .slice mu lu ku] 28)) (.cells #[.bool sv, .slice mv lv kv] 28)))
  replace Bu := hide (Bu.out.step (below_alloc ((r3.alloc (.cells #[.bool sg, .slice mg lg kg] 28)).alloc (.cells #[.bool su, .slice mu lu ku] 28)) (.cells #[.bool sv, .slice mv lv kv] 28)))
  have Bv := hide (Box.new ((r3.alloc (.cells #[.bool sg, .slice mg lg kg] 28)).alloc (.cells #[.bool su, .slice mu lu ku] 28)) (.bool sv) (.slice mv lv kv))
  simp only [World.size_alloc] at Bv
  generalize (((r3.alloc (.cells #[.bool sg, .slice mg lg kg] 28)).alloc (.cells #[.bool su, .slice mu lu ku] 28)).alloc (.cells #[.bool sv, .slice mv lv kv] 28)) = r4 at *
  generalize r3.heap.size = gg at *
  clear GEQ
  refine wp_calm (fun w' => Below w.heap.size w w' ∧ Var w' gx sx mx lx kx X ∧ RVar w' (gx + 1) sp mp lp kp X ∧ Var w' gy sy my ly ky Y ∧ RVar w' (gy + 1) sq mq lq kq Y ∧ Box2 w' gw 30 (.bool sw) (.slice mw lw kw) ∧ RInt w' (.agg #[.bool sw, .slice mw lw kw]) (Int.gcd X Y : Int) ∧ Box w' gg (.bool sg) (.slice mg lg kg) ∧ IntAt w' (.agg #[.bool sg, .slice mg lg kg]) (Int.gcd X Y : Int) ∧ Box w' (gg + 1) (.bool su) (.slice mu lu ku) ∧ IntAt w' (.agg #[.bool su, .slice mu lu ku]) u ∧ Box w' (gg + 1 + 1) (.bool sv) (.slice mv lv kv) ∧ IntAt w' (.agg #[.bool sv, .slice mv lv kv]) v) (fun _ => true) 16 #[false, false, false, false, false, false, false, false, false, false, false, false, false, false, false, false] (by kernel_rfl) rfl rfl ?_
  have HF := hide (And.intro (HB.out.drew) (And.intro (Vx.out.drew) (And.intro (Vp.out.drew) (And.intro (Vy.out.drew) (And.intro (Vq.out.drew) (And.intro (Bw.out.drew) (And.intro (Tw.out.drew) (And.intro (Bg.out.drew) (And.intro (Tg.out.drew) (And.intro (Bu.out.drew) (And.intro (Tu.out.drew) (And.intro (Bv.out.drew) (Tv.out.drew)))))))))))))
  generalize r4.drew = r4d at *
  refine Calm.take (i := 0) (v := ?_) (a' := ?_) (l' := #[true, false, false, false, false, false, false, false, false, false, false, false, false, false, false, false]) (d := some 48) rfl (by kernel_rfl) (by kernel_rfl) (by kernel_rfl) (by kernel_rfl) (fun _ _ _ h => h) HF.out rfl ?_ rfl rfl ?_ ?_
  rotate_left
  · intro w' hF; have f10 := hF.2.1.box.cell0; have f11 := hF.2.1.box.cell1; have f20 := hF.2.2.1.box.cell0; have f21 := hF.2.2.1.box.cell1; have f30 := hF.2.2.2.1.box.cell0; have f31 := hF.2.2.2.1.box.cell1; have f40 := hF.2.2.2.2.1.box.cell0; have f41 := hF.2.2.2.2.1.box.cell1; have f50 := hF.2.2.2.2.2.1.cell0; have f51 := hF.2.2.2.2.2.1.cell1; have f70 := hF.2.2.2.2.2.2.2.1.cell0; have f71 := hF.2.2.2.2.2.2.2.1.cell1; have f90 := hF.2.2.2.2.2.2.2.2.2.1.cell0; have f91 := hF.2.2.2.2.2.2.2.2.2.1.cell1; have f110 := hF.2.2.2.2.2.2.2.2.2.2.2.1.cell0; have f111 := hF.2.2.2.2.2.2.2.2.2.2.2.1.cell1; clear hF; go_simp; try rfl
  rotate_left
  · simp only [Act.put]; exact rfl
  refine Calm.take (i := 1) (v := ?_) (a' := ?_) (l' := #[true, true, false, false, false, false, false, false, false, false, false, false, false, false, false, false]) (d := some 49) rfl (by kernel_rfl) (by kernel_rfl) (by kernel_rfl) (by kernel_rfl) (fun _ _ _ h => h) HF.out rfl ?_ rfl rfl ?_ ?_
  rotate_left
  · intro w' hF; have f10 := hF.2.1.box.cell0; have f11 := hF.2.1.box.cell1; have f20 := hF.2.2.1.box.cell0; have f21 := hF.2.2.1.box.cell1; have f30 := hF.2.2.2.1.box.cell0; have f31 := hF.2.2.2.1.box.cell1; have f40 := hF.2.2.2.2.1.box.cell0; have f41 := hF.2.2.2.2.1.box.cell1; have f50 := hF.2.2.2.2.2.1.cell0; have f51 := hF.2.2.2.2.2.1.cell1; have f70 := hF.2.2.2.2.2.2.2.1.cell0; have f71 := hF.2.2.2.2.2.2.2.1.cell1; have f90 := hF.2.2.2.2.2.2.2.2.2.1.cell0; have f91 := hF.2.2.2.2.2.2.2.2.2.1.cell1; have f110 := hF.2.2.2.2.2.2.2.2.2.2.2.1.cell0; have f111 := hF.2.2.2.2.2.2.2.2.2.2.2.1.cell1; clear hF; go_simp; try rfl
  rotate_left
  · simp only [Act.put]; exact rfl
  refine Calm.take (i := 3) (v := ?_) (a' := ?_) (l' := #[true, true, false, true, false, false, false, false, false, false, false, false, false, false, false, false]) (d := some 51) rfl (by kernel_rfl) (by kernel_rfl) (by kernel_rfl) (by kernel_rfl) (fun _ _ _ h => h) HF.out rfl ?_ rfl rfl ?_ ?_
  rotate_left
  · intro w' hF; have f10 := hF.2.1.box.cell0; have f11 := hF.2.1.box.cell1; have f20 := hF.2.2.1.box.cell0; have f21 := hF.2.2.1.box.cell1; have f30 := hF.2.2.2.1.box.cell0; have f31 := hF.2.2.2.1.box.cell1; have f40 := hF.2.2.2.2.1.box.cell0; have f41 := hF.2.2.2.2.1.box.cell1; have f50 := hF.2.2.2.2.2.1.cell0; have f51 := hF.2.2.2.2.2.1.cell1; have f70 := hF.2.2.2.2.2.2.2.1.cell0; have f71 := hF.2.2.2.2.2.2.2.1.cell1; have f90 := hF.2.2.2.2.2.2.2.2.2.1.cell0; have f91 := hF.2.2.2.2.2.2.2.2.2.1.cell1; have f110 := hF.2.2.2.2.2.2.2.2.2.2.2.1.cell0; have f111 := hF.2.2.2.2.2.2.2.2.2.2.2.1.cell1; clear hF; go_simp; try rfl
  rotate_left
  · simp only [Act.put]; exact rfl
  refine Calm.one (i := 2) (l' := #[true, true, true, true, false, false, false, false, false, false, false, false, false, false, false, false]) (by kernel_rfl) rfl rfl rfl fun K hK => ?_
  go_simp
  refine (igcd_any _ _ X Y _ HF.out.2.1.int HF.out.2.2.2.1.int (SzI.len SX.out (by decide)) (SzI.len SY.out (by decide))).mono ?_
  rintro e u1 ⟨v', rfl, n, hb⟩
  have HF' := hide (And.intro (HF.out.1.trans ((hb).mono HF.out.1.size)) (And.intro (HF.out.2.1.step (hb)) (And.intro (HF.out.2.2.1.step (hb)) (And.intro (HF.out.2.2.2.1.step (hb)) (And.intro (HF.out.2.2.2.2.1.step (hb)) (And.intro (HF.out.2.2.2.2.2.1.step (hb)) (And.intro (HF.out.2.2.2.2.2.2.1.below (hb)) (And.intro (HF.out.2.2.2.2.2.2.2.1.step (hb)) (And.intro (HF.out.2.2.2.2.2.2.2.2.1.below (hb)) (And.intro (HF.out.2.2.2.2.2.2.2.2.2.1.step (hb)) (And.intro (HF.out.2.2.2.2.2.2.2.2.2.2.1.below (hb)) (And.intro (HF.out.2.2.2.2.2.2.2.2.2.2.2.1.step (hb)) (HF.out.2.2.2.2.2.2.2.2.2.2.2.2.below (hb))))))))))))))
  have TG := hide (n)
  refine hK _ _ (fun _ => HF'.out) ?_
  clear hK K HF hb n
  have HF := hide HF'.out
  clear HF'
  refine Calm.one (i := 4) (l' := #[true, true, true, true, true, false, false, false, false, false, false, false, false, false, false, false]) (by kernel_rfl) rfl rfl rfl fun K hK => ?_
  go_simp
  refine (is_yes _ _ (Int.gcd X Y : Int) _ TG.out HF.out.2.2.2.2.2.2.1 (SzI.len SD.out (by decide)) (Nat.le_trans (SzI.dlen SD.out (by decide)) (by decide))).mono ?_
  rintro e u2 ⟨rfl, hb⟩
  clear TG
  have HF' := hide (And.intro (HF.out.1.trans ((hb).mono HF.out.1.size)) (And.intro (HF.out.2.1.step (hb)) (And.intro (HF.out.2.2.1.step (hb)) (And.intro (HF.out.2.2.2.1.step (hb)) (And.intro (HF.out.2.2.2.2.1.step (hb)) (And.intro (HF.out.2.2.2.2.2.1.step (hb)) (And.intro (HF.out.2.2.2.2.2.2.1.below (hb)) (And.intro (HF.out.2.2.2.2.2.2.2.1.step (hb)) (And.intro (HF.out.2.2.2.2.2.2.2.2.1.below (hb)) (And.intro (HF.out.2.2.2.2.2.2.2.2.2.1.step (hb)) (And.intro (HF.out.2.2.2.2.2.2.2.2.2.2.1.below (hb)) (And.intro (HF.out.2.2.2.2.2.2.2.2.2.2.2.1.step (hb)) (HF.out.2.2.2.2.2.2.2.2.2.2.2.2.below (hb))))))))))))))
  refine hK _ _ (fun _ => HF'.out) ?_
  clear hK K HF hb
  have HF := hide HF'.out
  clear HF'
  refine Calm.take (i := 5) (v := ?_) (a' := ?_) (l' := #[true, true, true, true, true, true, false, false, false, false, false, false, false, false, false, false]) (d := some 53) rfl (by kernel_rfl) (by kernel_rfl) (by kernel_rfl) (by kernel_rfl) (fun _ _ _ h => h) HF.out rfl ?_ rfl rfl ?_ ?_
  rotate_left
  · intro w' hF; clear hF; go_simp; try rfl
  rotate_left
  · simp only [Act.put]; exact rfl
  refine Calm.take (i := 6) (v := ?_) (a' := ?_) (l' := #[true, true, true, true, true, true, true, false, false, false, false, false, false, false, false, false]) (d := some 54) rfl (by kernel_rfl) (by kernel_rfl) (by kernel_rfl) (by kernel_rfl) (fun _ _ _ h => h) HF.out rfl ?_ rfl rfl ?_ ?_
  rotate_left
  · intro w' hF; clear hF; go_simp; try rfl
  rotate_left
  · simp only [Act.put]; exact rfl
  refine Calm.take (i := 7) (v := ?_) (a' := ?_) (l' := #[true, true, true, true, true, true, true, true, false, false, false, false, false, false, false, false]) (d := some 55) rfl (by kernel_rfl) (by kernel_rfl) (by kernel_rfl) (by kernel_rfl) (fun _ _ _ h => h) HF.out (by kernel_rfl) ?_ rfl rfl ?_ ?_
  rotate_left
  · intro w' hF; have f10 := hF.2.1.box.cell0; have f11 := hF.2.1.box.cell1; have f20 := hF.2.2.1.box.cell0; have f21 := hF.2.2.1.box.cell1; have f30 := hF.2.2.2.1.box.cell0; have f31 := hF.2.2.2.1.box.cell1; have f40 := hF.2.2.2.2.1.box.cell0; have f41 := hF.2.2.2.2.1.box.cell1; have f50 := hF.2.2.2.2.2.1.cell0; have f51 := hF.2.2.2.2.2.1.cell1; have f70 := hF.2.2.2.2.2.2.2.1.cell0; have f71 := hF.2.2.2.2.2.2.2.1.cell1; have f90 := hF.2.2.2.2.2.2.2.2.2.1.cell0; have f91 := hF.2.2.2.2.2.2.2.2.2.1.cell1; have f110 := hF.2.2.2.2.2.2.2.2.2.2.2.1.cell0; have f111 := hF.2.2.2.2.2.2.2.2.2.2.2.1.cell1; clear hF; go_simp; try rfl
  rotate_left
  · simp only [Act.put]; exact rfl
  refine Calm.take (i := 8) (v := ?_) (a' := ?_) (l' := #[true, true, true, true, true, true, true, true, true, false, false, false, false, false, false, false]) (d := some 56) rfl (by kernel_rfl) (by kernel_rfl) (by kernel_rfl) (by kernel_rfl) (fun _ _ _ h => h) HF.out (by kernel_rfl) ?_ rfl rfl ?_ ?_
  rotate_left
  · intro w' hF; have f10 := hF.2.1.box.cell0; have f11 := hF.2.1.box.cell1; have f20 := hF.2.2.1.box.cell0; have f21 := hF.2.2.1.box.cell1; have f30 := hF.2.2.2.1.box.cell0; have f31 := hF.2.2.2.1.box.cell1; have f40 := hF.2.2.2.2.1.box.cell0; have f41 := hF.2.2.2.2.1.box.cell1; have f50 := hF.2.2.2.2.2.1.cell0; have f51 := hF.2.2.2.2.2.1.cell1; have f70 := hF.2.2.2.2.2.2.2.1.cell0; have f71 := hF.2.2.2.2.2.2.2.1.cell1; have f90 := hF.2.2.2.2.2.2.2.2.2.1.cell0; have f91 := hF.2.2.2.2.2.2.2.2.2.1.cell1; have f110 := hF.2.2.2.2.2.2.2.2.2.2.2.1.cell0; have f111 := hF.2.2.2.2.2.2.2.2.2.2.2.1.cell1; clear hF; go_simp; try rfl
  rotate_left
  · simp only [Act.put]; exact rfl
  refine Calm.one (i := 9) (l' := #[true, true, true, true, true, true, true, true, true, true, false, false, false, false, false, false]) (by kernel_rfl) rfl (by kernel_rfl) rfl fun K hK => ?_
  go_simp
  refine (is_yes _ _ (Int.gcd X Y : Int) _ HF.out.2.2.2.2.2.2.2.2.1 HF.out.2.2.2.2.2.2.1 (SzI.len SD.out (by decide)) (Nat.le_trans (SzI.dlen SD.out (by decide)) (by decide))).mono ?_
  rintro e u3 ⟨rfl, hb⟩
  have HF' := hide (And.intro (HF.out.1.trans ((hb).mono HF.out.1.size)) (And.intro (HF.out.2.1.step (hb)) (And.intro (HF.out.2.2.1.step (hb)) (And.intro (HF.out.2.2.2.1.step (hb)) (And.intro (HF.out.2.2.2.2.1.step (hb)) (And.intro (HF.out.2.2.2.2.2.1.step (hb)) (And.intro (HF.out.2.2.2.2.2.2.1.below (hb)) (And.intro (HF.out.2.2.2.2.2.2.2.1.step (hb)) (And.intro (HF.out.2.2.2.2.2.2.2.2.1.below (hb)) (And.intro (HF.out.2.2.2.2.2.2.2.2.2.1.step (hb)) (And.intro (HF.out.2.2.2.2.2.2.2.2.2.2.1.below (hb)) (And.intro (HF.out.2.2.2.2.2.2.2.2.2.2.2.1.step (hb)) (HF.out.2.2.2.2.2.2.2.2.2.2.2.2.below (hb))))))))))))))
  refine hK _ _ (fun _ => HF'.out) ?_
  clear hK K HF hb
  have HF := hide HF'.out
  clear HF'
  refine Calm.take (i := 10) (v := ?_) (a' := ?_) (l' := #[true, true, true, true, true, true, true, true, true, true, true, false, false, false, false, false]) (d := some 58) rfl (by kernel_rfl) (by kernel_rfl) (by kernel_rfl) (by kernel_rfl) (fun _ _ _ h => h) HF.out (by kernel_rfl) ?_ rfl rfl ?_ ?_
  rotate_left
  · intro w' hF; clear hF; go_simp; try rfl
  rotate_left
  · simp only [Act.put]; exact rfl
  refine Calm.take (i := 11) (v := ?_) (a' := ?_) (l' := #[true, true, true, true, true, true, true, true, true, true, true, true, false, false, false, false]) (d := some 59) rfl (by kernel_rfl) (by kernel_rfl) (by kernel_rfl) (by kernel_rfl) (fun _ _ _ h => h) HF.out rfl ?_ rfl rfl ?_ ?_
  rotate_left
  · intro w' hF; clear hF; go_simp; try rfl
  rotate_left
  · simp only [Act.put]; exact rfl
  refine Calm.take (i := 12) (v := ?_) (a' := ?_) (l' := #[true, true, true, true, true, true, true, true, true, true, true, true, true, false, false, false]) (d := some 60) rfl (by kernel_rfl) (by kernel_rfl) (by kernel_rfl) (by kernel_rfl) (fun _ _ _ h => h) HF.out rfl ?_ rfl rfl ?_ ?_
  rotate_left
  · intro w' hF; clear hF; go_simp; try rfl
  rotate_left
  · simp only [Act.put]; exact rfl
  refine Calm.one (i := 13) (l' := #[true, true, true, true, true, true, true, true, true, true, true, true, true, true, false, false]) (by kernel_rfl) rfl (by kernel_rfl) rfl fun K hK => ?_
  go_simp
  refine (live_any _).mono ?_
  rintro e u4 ⟨rfl, hb⟩
  have HF' := hide (And.intro (HF.out.1.trans ((hb).mono HF.out.1.size)) (And.intro (HF.out.2.1.step (hb)) (And.intro (HF.out.2.2.1.step (hb)) (And.intro (HF.out.2.2.2.1.step (hb)) (And.intro (HF.out.2.2.2.2.1.step (hb)) (And.intro (HF.out.2.2.2.2.2.1.step (hb)) (And.intro (HF.out.2.2.2.2.2.2.1.below (hb)) (And.intro (HF.out.2.2.2.2.2.2.2.1.step (hb)) (And.intro (HF.out.2.2.2.2.2.2.2.2.1.below (hb)) (And.intro (HF.out.2.2.2.2.2.2.2.2.2.1.step (hb)) (And.intro (HF.out.2.2.2.2.2.2.2.2.2.2.1.below (hb)) (And.intro (HF.out.2.2.2.2.2.2.2.2.2.2.2.1.step (hb)) (HF.out.2.2.2.2.2.2.2.2.2.2.2.2.below (hb))))))))))))))
  refine hK _ _ (fun _ => HF'.out) ?_
  clear hK K HF hb
  have HF := hide HF'.out
  clear HF'
  refine Calm.take (i := 14) (v := ?_) (a' := ?_) (l' := #[true, true, true, true, true, true, true, true, true, true, true, true, true, true, true, false]) (d := some 62) rfl (by kernel_rfl) (by kernel_rfl) (by kernel_rfl) (by kernel_rfl) (fun _ _ _ h => h) HF.out (by kernel_rfl) ?_ rfl rfl ?_ ?_
  rotate_left
  · intro w' hF; clear hF; go_simp; try rfl
  rotate_left
  · simp only [Act.put]; exact rfl
  refine Calm.take (i := 15) (v := ?_) (a' := ?_) (l' := #[true, true, true, true, true, true, true, true, true, true, true, true, true, true, true, true]) (d := some 63) rfl (by kernel_rfl) (by kernel_rfl) (by kernel_rfl) (by kernel_rfl) (fun _ _ _ h => h) HF.out rfl ?_ rfl rfl ?_ ?_
  rotate_left
  · intro w' hF; clear hF; go_simp; try rfl
  rotate_left
  · simp only [Act.put]; exact rfl
  refine Calm.done (by kernel_rfl) ?_
  replace HB := hide HF.out.1
  replace Vx := hide HF.out.2.1
  replace Vp := hide HF.out.2.2.1
  replace Vy := hide HF.out.2.2.2.1
  replace Vq := hide HF.out.2.2.2.2.1
  replace Bw := hide HF.out.2.2.2.2.2.1
  replace Tw := hide HF.out.2.2.2.2.2.2.1
  replace Bg := hide HF.out.2.2.2.2.2.2.2.1
  replace Tg := hide HF.out.2.2.2.2.2.2.2.2.1
  replace Bu := hide HF.out.2.2.2.2.2.2.2.2.2.1
  replace Tu := hide HF.out.2.2.2.2.2.2.2.2.2.2.1
  replace Bv := hide HF.out.2.2.2.2.2.2.2.2.2.2.2.1
  replace Tv := hide HF.out.2.2.2.2.2.2.2.2.2.2.2.2
  clear HF
  clear Vx
  clear Vy
  clear Bg
  clear Tg
  have p0 := Bu.out.cell0
  have p1 := Bu.out.cell1
  go_wp2_with fail
  refine (ilimbs_any _ u _ Tu.out (SzI.len SUV.out.1 (by decide))).mono ?_
  rintro e t1 ⟨lu', rfl, nl, hb⟩
  clear p0 p1
  replace HB := hide (HB.out.trans ((hb).mono HB.out.size))
  replace Vp := hide (Vp.out.step (hb))
  replace Vq := hide (Vq.out.step (hb))
  replace Tw := hide (Tw.out.below (hb))
  replace Bw := hide (Bw.out.step (hb))
  replace Tu := hide (Tu.out.below (hb))
  replace Tv := hide (Tv.out.below (hb))
  replace Bu := hide (Bu.out.step (hb))
  replace Bv := hide (Bv.out.step (hb))
  have Nu := hide (nl)
  clear hb nl
  have p0 := Bv.out.cell0
  have p1 := Bv.out.cell1
  go_wp2_with fail
  refine (ilimbs_any _ v _ Tv.out (SzI.len SUV.out.2 (by decide))).mono ?_
  rintro e t2 ⟨lv', rfl, nl, hb⟩
  clear p0 p1
  replace HB := hide (HB.out.trans ((hb).mono HB.out.size))
  replace Vp := hide (Vp.out.step (hb))
  replace Vq := hide (Vq.out.step (hb))
  replace Tw := hide (Tw.out.below (hb))
  replace Bw := hide (Bw.out.step (hb))
  replace Tu := hide (Tu.out.below (hb))
  replace Tv := hide (Tv.out.below (hb))
  replace Bu := hide (Bu.out.step (hb))
  replace Bv := hide (Bv.out.step (hb))
  replace Nu := hide (Nu.out.below (hb))
  have Nv := hide (nl)
  clear hb nl
  clear Bu
  clear Tu
  clear Bv
  clear Tv
  go_wp2_with fail
  refine (rmake_any _ _ _ _ Nu.out (SzI.len SUV.out.1 (by decide))).mono ?_
  rintro e t3 ⟨v', rfl, n, hb⟩
  rw [sg_dec] at n
  obtain ⟨ss, ms, ls, ks, rfl, n⟩ := n.cells
  replace HB := hide (HB.out.trans ((hb).mono HB.out.size))
  replace Vp := hide (Vp.out.step (hb))
  replace Vq := hide (Vq.out.step (hb))
  replace Tw := hide (Tw.out.below (hb))
  replace Bw := hide (Bw.out.step (hb))
  replace Nu := hide (Nu.out.below (hb))
  replace Nv := hide (Nv.out.below (hb))
  have Ts := hide (n)
  clear hb n
  go_wp2_with fail
  refine (rmake_any _ _ _ _ Nv.out (SzI.len SUV.out.2 (by decide))).mono ?_
  rintro e t4 ⟨v', rfl, n, hb⟩
  rw [sg_dec] at n
  obtain ⟨st, mt, lt, kt, rfl, n⟩ := n.cells
  replace HB := hide (HB.out.trans ((hb).mono HB.out.size))
  replace Vp := hide (Vp.out.step (hb))
  replace Vq := hide (Vq.out.step (hb))
  replace Tw := hide (Tw.out.below (hb))
  replace Bw := hide (Bw.out.step (hb))
  replace Nu := hide (Nu.out.below (hb))
  replace Nv := hide (Nv.out.below (hb))
  replace Ts := hide (Ts.out.below (hb))
  have Tt := hide (n)
  clear hb n
  clear Nu
  clear Nv
  go_upto_region 14 with fail
  replace HB := hide (HB.out.trans ((below_alloc t4 (.cells #[.bool ss, .slice ms ls ks] 30)).mono HB.out.size))
  replace Vp := hide (Vp.out.step (below_alloc t4 (.cells #[.bool ss, .slice ms ls ks] 30)))
  replace Vq := hide (Vq.out.step (below_alloc t4 (.cells #[.bool ss, .slice ms ls ks] 30)))
  replace Tw := hide (Tw.out.below (below_alloc t4 (.cells #[.bool ss, .slice ms ls ks] 30)))
  replace Bw := hide (Bw.out.step (below_alloc t4 (.cells #[.bool ss, .slice ms ls ks] 30)))
  replace Ts := hide (Ts.out.below (below_alloc t4 (.cells #[.bool ss, .slice ms ls ks] 30)))
  replace Tt := hide (Tt.out.below (below_alloc t4 (.cells #[.bool ss, .slice ms ls ks] 30)))
  have Bs := hide (Box2.new t4 30 (.bool ss) (.slice ms ls ks))
  replace HB := hide (HB.out.trans ((below_alloc (t4.alloc (.cells #[.bool ss, .slice ms ls ks] 30)) (.cells #[.bool st, .slice mt lt kt] 30)).mono HB.out.size))
  replace Vp := hide (Vp.out.step (below_alloc (t4.alloc (.cells #[.bool ss, .slice ms ls ks] 30)) (.cells #[.bool st, .slice mt lt kt] 30)))
  replace Vq := hide (Vq.out.step (below_alloc (t4.alloc (.cells #[.bool ss, .slice ms ls ks] 30)) (.cells #[.bool st, .slice mt lt kt] 30)))
  replace Tw := hide (Tw.out.below (below_alloc (t4.alloc (.cells #[.bool ss, .slice ms ls ks] 30)) (.cells #[.bool st, .slice mt lt kt] 30)))
  replace Bw := hide (Bw.out.step (below_alloc (t4.alloc (.cells #[.bool ss, .slice ms ls ks] 30)) (.cells #[.bool st, .slice mt lt kt] 30)))
  replace Ts := hide (Ts.out.below (below_alloc (t4.alloc (.cells #[.bool ss, .slice ms ls ks] 30)) (.cells #[.bool st, .slice mt lt kt] 30)))
  replace Tt := hide (Tt.out.below (below_alloc (t4.alloc (.cells #[.bool ss, .slice ms ls ks] 30)) (.cells #[.bool st, .slice mt lt kt] 30)))
  replace Bs := hide (Bs.out.step (below_alloc (t4.alloc (.cells #[.bool ss, .slice ms ls ks] 30)) (.cells #[.bool st, .slice mt lt kt] 30)))
  have Bt := hide (Box2.new (t4.alloc (.cells #[.bool ss, .slice ms ls ks] 30)) 30 (.bool st) (.slice mt lt kt))
  simp only [World.size_alloc] at Bt
  generalize ((t4.alloc (.cells #[.bool ss, .slice ms ls ks] 30)).alloc (.cells #[.bool st, .slice mt lt kt] 30)) = t5 at *
  generalize t4.heap.size = gs at *
  have Pp := hide Vp.out.box
  have Ip := hide Vp.out.int
  clear Vp
  have Pq := hide Vq.out.box
  have Iq := hide Vq.out.int
  clear Vq
  go_cut [19] from 20 (fun pm wx => ∃ gm sm mm lm km, pm = .pointer (some ⟨gm, 0, none⟩) ∧ (Below w.heap.size w wx ∧ Box2 wx (gx + 1) 30 (.bool sp) (.slice mp lp kp) ∧ RInt wx (.agg #[.bool sp, .slice mp lp kp]) X ∧ Box2 wx (gy + 1) 30 (.bool sq) (.slice mq lq kq) ∧ RInt wx (.agg #[.bool sq, .slice mq lq kq]) Y ∧ Box2 wx gw 30 (.bool sw) (.slice mw lw kw) ∧ RInt wx (.agg #[.bool sw, .slice mw lw kw]) (Int.gcd X Y : Int) ∧ Box2 wx gs 30 (.bool ss) (.slice ms ls ks) ∧ RInt wx (.agg #[.bool ss, .slice ms ls ks]) u ∧ Box2 wx (gs + 1) 30 (.bool st) (.slice mt lt kt) ∧ RInt wx (.agg #[.bool st, .slice mt lt kt]) v) ∧ Box2 wx gm 30 (.bool sm) (.slice mm lm km) ∧ RInt wx (.agg #[.bool sm, .slice mm lm km]) (Int.gcd X Y : Int))
  case first =>
    refine wp_calm (fun w' => Below w.heap.size w w' ∧ Box2 w' (gx + 1) 30 (.bool sp) (.slice mp lp kp) ∧ RInt w' (.agg #[.bool sp, .slice mp lp kp]) X ∧ Box2 w' (gy + 1) 30 (.bool sq) (.slice mq lq kq) ∧ RInt w' (.agg #[.bool sq, .slice mq lq kq]) Y ∧ Box2 w' gw 30 (.bool sw) (.slice mw lw kw) ∧ RInt w' (.agg #[.bool sw, .slice mw lw kw]) (Int.gcd X Y : Int) ∧ Box2 w' gs 30 (.bool ss) (.slice ms ls ks) ∧ RInt w' (.agg #[.bool ss, .slice ms ls ks]) u ∧ Box2 w' (gs + 1) 30 (.bool st) (.slice mt lt kt) ∧ RInt w' (.agg #[.bool st, .slice mt lt kt]) v) (fun _ => true) 9 #[false, false, false, false, false, false, false, false, false] (by kernel_rfl) rfl rfl ?_
    have HF := hide (And.intro (HB.out.drew) (And.intro (Pp.out.drew) (And.intro (Ip.out.drew) (And.intro (Pq.out.drew) (And.intro (Iq.out.drew) (And.intro (Bw.out.drew) (And.intro (Tw.out.drew) (And.intro (Bs.out.drew) (And.intro (Ts.out.drew) (And.intro (Bt.out.drew) (Tt.out.drew)))))))))))
    generalize t5.drew = t5d at *
    refine Calm.take (i := 0) (v := ?_) (a' := ?_) (l' := #[true, false, false, false, false, false, false, false, false]) (d := some 80) rfl (by kernel_rfl) (by kernel_rfl) (by kernel_rfl) (by kernel_rfl) (fun _ _ _ h => h) HF.out rfl ?_ rfl rfl ?_ ?_
    rotate_left
    · intro w' hF; have f10 := hF.2.1.cell0; have f11 := hF.2.1.cell1; have f30 := hF.2.2.2.1.cell0; have f31 := hF.2.2.2.1.cell1; have f50 := hF.2.2.2.2.2.1.cell0; have f51 := hF.2.2.2.2.2.1.cell1; have f70 := hF.2.2.2.2.2.2.2.1.cell0; have f71 := hF.2.2.2.2.2.2.2.1.cell1; have f90 := hF.2.2.2.2.2.2.2.2.2.1.cell0; have f91 := hF.2.2.2.2.2.2.2.2.2.1.cell1; clear hF; go_simp; try rfl
    rotate_left
    · simp only [Act.put]; exact rfl
    refine Calm.take (i := 1) (v := ?_) (a' := ?_) (l' := #[true, true, false, false, false, false, false, false, false]) (d := some 81) rfl (by kernel_rfl) (by kernel_rfl) (by kernel_rfl) (by kernel_rfl) (fun _ _ _ h => h) HF.out rfl ?_ rfl rfl ?_ ?_
    rotate_left
    · intro w' hF; have f10 := hF.2.1.cell0; have f11 := hF.2.1.cell1; have f30 := hF.2.2.2.1.cell0; have f31 := hF.2.2.2.1.cell1; have f50 := hF.2.2.2.2.2.1.cell0; have f51 := hF.2.2.2.2.2.1.cell1; have f70 := hF.2.2.2.2.2.2.2.1.cell0; have f71 := hF.2.2.2.2.2.2.2.1.cell1; have f90 := hF.2.2.2.2.2.2.2.2.2.1.cell0; have f91 := hF.2.2.2.2.2.2.2.2.2.1.cell1; clear hF; go_simp; try rfl
    rotate_left
    · simp only [Act.put]; exact rfl
    refine Calm.take (i := 3) (v := ?_) (a' := ?_) (l' := #[true, true, false, true, false, false, false, false, false]) (d := some 83) rfl (by kernel_rfl) (by kernel_rfl) (by kernel_rfl) (by kernel_rfl) (fun _ _ _ h => h) HF.out rfl ?_ rfl rfl ?_ ?_
    rotate_left
    · intro w' hF; have f10 := hF.2.1.cell0; have f11 := hF.2.1.cell1; have f30 := hF.2.2.2.1.cell0; have f31 := hF.2.2.2.1.cell1; have f50 := hF.2.2.2.2.2.1.cell0; have f51 := hF.2.2.2.2.2.1.cell1; have f70 := hF.2.2.2.2.2.2.2.1.cell0; have f71 := hF.2.2.2.2.2.2.2.1.cell1; have f90 := hF.2.2.2.2.2.2.2.2.2.1.cell0; have f91 := hF.2.2.2.2.2.2.2.2.2.1.cell1; clear hF; go_simp; try rfl
    rotate_left
    · simp only [Act.put]; exact rfl
    refine Calm.take (i := 4) (v := ?_) (a' := ?_) (l' := #[true, true, false, true, true, false, false, false, false]) (d := some 84) rfl (by kernel_rfl) (by kernel_rfl) (by kernel_rfl) (by kernel_rfl) (fun _ _ _ h => h) HF.out rfl ?_ rfl rfl ?_ ?_
    rotate_left
    · intro w' hF; have f10 := hF.2.1.cell0; have f11 := hF.2.1.cell1; have f30 := hF.2.2.2.1.cell0; have f31 := hF.2.2.2.1.cell1; have f50 := hF.2.2.2.2.2.1.cell0; have f51 := hF.2.2.2.2.2.1.cell1; have f70 := hF.2.2.2.2.2.2.2.1.cell0; have f71 := hF.2.2.2.2.2.2.2.1.cell1; have f90 := hF.2.2.2.2.2.2.2.2.2.1.cell0; have f91 := hF.2.2.2.2.2.2.2.2.2.1.cell1; clear hF; go_simp; try rfl
    rotate_left
    · simp only [Act.put]; exact rfl
    refine Calm.two (i := 2) (j := 7) (l := #[true, true, true, true, true, false, false, false, false]) (l' := #[true, true, false, true, true, false, false, true, false]) (by kernel_rfl) rfl rfl rfl rfl rfl rfl (fun K hK => ?_) (fun K hK => ?_)
    · go_simp
      refine (rmul2_any _ _ u X _ HF.out.2.2.2.2.2.2.2.2.1 HF.out.2.2.1 (SzI.dlen SUV.out.1 (by decide)) (SzI.dlen SX.out (by decide))).mono ?_
      rintro e u5 ⟨v', rfl, n, hb⟩
      have HF' := hide (And.intro (HF.out.1.trans ((hb).mono HF.out.1.size)) (And.intro (HF.out.2.1.step (hb)) (And.intro (HF.out.2.2.1.below (hb)) (And.intro (HF.out.2.2.2.1.step (hb)) (And.intro (HF.out.2.2.2.2.1.below (hb)) (And.intro (HF.out.2.2.2.2.2.1.step (hb)) (And.intro (HF.out.2.2.2.2.2.2.1.below (hb)) (And.intro (HF.out.2.2.2.2.2.2.2.1.step (hb)) (And.intro (HF.out.2.2.2.2.2.2.2.2.1.below (hb)) (And.intro (HF.out.2.2.2.2.2.2.2.2.2.1.step (hb)) (HF.out.2.2.2.2.2.2.2.2.2.2.below (hb))))))))))))
      have TA := hide (n)
      refine hK _ _ (fun _ => HF'.out) ?_
      clear hK K HF hb n
      have HF := hide HF'.out
      clear HF'
      refine Calm.two (i := 5) (j := 7) (l := #[true, true, true, true, true, true, false, false, false]) (l' := #[true, true, true, true, true, false, false, true, false]) (by kernel_rfl) rfl rfl rfl rfl rfl rfl (fun K hK => ?_) (fun K hK => ?_)
      · go_simp
        refine (rmul2_any _ _ v Y _ HF.out.2.2.2.2.2.2.2.2.2.2 HF.out.2.2.2.2.1 (SzI.dlen SUV.out.2 (by decide)) (SzI.dlen SY.out (by decide))).mono ?_
        rintro e u6 ⟨v', rfl, n, hb⟩
        replace TA := hide (TA.out.below (hb))
        have HF' := hide (And.intro (HF.out.1.trans ((hb).mono HF.out.1.size)) (And.intro (HF.out.2.1.step (hb)) (And.intro (HF.out.2.2.1.below (hb)) (And.intro (HF.out.2.2.2.1.step (hb)) (And.intro (HF.out.2.2.2.2.1.below (hb)) (And.intro (HF.out.2.2.2.2.2.1.step (hb)) (And.intro (HF.out.2.2.2.2.2.2.1.below (hb)) (And.intro (HF.out.2.2.2.2.2.2.2.1.step (hb)) (And.intro (HF.out.2.2.2.2.2.2.2.2.1.below (hb)) (And.intro (HF.out.2.2.2.2.2.2.2.2.2.1.step (hb)) (HF.out.2.2.2.2.2.2.2.2.2.2.below (hb))))))))))))
        have TB := hide (n)
        refine hK _ _ (fun _ => HF'.out) ?_
        clear hK K HF hb n
        have HF := hide HF'.out
        clear HF'
        refine Calm.two (i := 6) (j := 7) (l := #[true, true, true, true, true, true, true, false, false]) (l' := #[true, true, true, true, true, true, false, true, false]) (by kernel_rfl) rfl rfl rfl rfl rfl rfl (fun K hK => ?_) (fun K hK => ?_)
        · go_simp
          refine (radd2_any _ _ (u * X) (v * Y) _ TA.out TB.out (SzI.dlen (SzI.mul SUV.out.1 SX.out) (by decide)) (SzI.dlen (SzI.mul SUV.out.2 SY.out) (by decide))).mono ?_
          rintro e u7 ⟨v', rfl, n, hb⟩
          rw [BZ.out.2.1] at n
          obtain ⟨sm, mm, lm, km, rfl, n⟩ := n.cells
          clear TA
          clear TB
          have HF' := hide (And.intro (HF.out.1.trans ((hb).mono HF.out.1.size)) (And.intro (HF.out.2.1.step (hb)) (And.intro (HF.out.2.2.1.below (hb)) (And.intro (HF.out.2.2.2.1.step (hb)) (And.intro (HF.out.2.2.2.2.1.below (hb)) (And.intro (HF.out.2.2.2.2.2.1.step (hb)) (And.intro (HF.out.2.2.2.2.2.2.1.below (hb)) (And.intro (HF.out.2.2.2.2.2.2.2.1.step (hb)) (And.intro (HF.out.2.2.2.2.2.2.2.2.1.below (hb)) (And.intro (HF.out.2.2.2.2.2.2.2.2.2.1.step (hb)) (HF.out.2.2.2.2.2.2.2.2.2.2.below (hb))))))))))))
          have TM := hide (n)
          refine hK _ _ (fun _ => HF'.out) ?_
          clear hK K HF hb n
          have HF := hide HF'.out
          clear HF'
          refine Calm.one (i := 7) (l' := #[true, true, true, true, true, true, true, true, false]) (by kernel_rfl) rfl rfl rfl fun K hK => ?_
          go_simp
          have al := below_alloc u7 (.cells #[.bool false, .slice none 0 0] 30)
          have HF' := hide (And.intro (HF.out.1.trans ((al).mono HF.out.1.size)) (And.intro (HF.out.2.1.step (al)) (And.intro (HF.out.2.2.1.below (al)) (And.intro (HF.out.2.2.2.1.step (al)) (And.intro (HF.out.2.2.2.2.1.below (al)) (And.intro (HF.out.2.2.2.2.2.1.step (al)) (And.intro (HF.out.2.2.2.2.2.2.1.below (al)) (And.intro (HF.out.2.2.2.2.2.2.2.1.step (al)) (And.intro (HF.out.2.2.2.2.2.2.2.2.1.below (al)) (And.intro (HF.out.2.2.2.2.2.2.2.2.2.1.step (al)) (HF.out.2.2.2.2.2.2.2.2.2.2.below (al))))))))))))
          have BXm := hide (Box2.new u7 30 (.bool false) (.slice none 0 0))
          replace TM := hide (TM.out.below (al))
          have LT1m := hide (HF.out.2.1.lt)
          have LT3m := hide (HF.out.2.2.2.1.lt)
          have LT5m := hide (HF.out.2.2.2.2.2.1.lt)
          have LT7m := hide (HF.out.2.2.2.2.2.2.2.1.lt)
          have LT9m := hide (HF.out.2.2.2.2.2.2.2.2.2.1.lt)
          have GEm := hide (HF.out.1.size)
          refine hK _ _ (fun _ => HF'.out) ?_
          clear hK K HF al
          have HF := hide HF'.out
          clear HF'
          generalize u7.alloc (.cells #[.bool false, .slice none 0 0] 30) = wzm at *
          generalize u7.heap.size = gm at *
          refine Calm.one (i := 8) (l' := #[true, true, true, true, true, true, true, true, true]) (by kernel_rfl) rfl rfl rfl fun K hK => ?_
          have LTS := hide (And.intro (LT1m.out) (And.intro (LT3m.out) (And.intro (LT5m.out) (And.intro (LT7m.out) (And.intro (LT9m.out) (GEm.out))))))
          have hc0 := BXm.out.cell0
          have hc1 := BXm.out.cell1
          have hf0 := BXm.out.free 0
          have hf1 := BXm.out.free 1
          go_simp
          have HF' := hide (And.intro (below_put HF.out.1 (show w.heap.size ≤ gm by have hx := LTS.out; omega) (.bool sm) (.slice mm lm km)) (And.intro (HF.out.2.1.other (C := gm) (by have hx := LTS.out; omega) (.bool sm) (.slice mm lm km)) (And.intro (HF.out.2.2.1.keep (BXm.out.keeps (by simp) (by simp) (.bool sm) (.slice mm lm km))) (And.intro (HF.out.2.2.2.1.other (C := gm) (by have hx := LTS.out; omega) (.bool sm) (.slice mm lm km)) (And.intro (HF.out.2.2.2.2.1.keep (BXm.out.keeps (by simp) (by simp) (.bool sm) (.slice mm lm km))) (And.intro (HF.out.2.2.2.2.2.1.other (C := gm) (by have hx := LTS.out; omega) (.bool sm) (.slice mm lm km)) (And.intro (HF.out.2.2.2.2.2.2.1.keep (BXm.out.keeps (by simp) (by simp) (.bool sm) (.slice mm lm km))) (And.intro (HF.out.2.2.2.2.2.2.2.1.other (C := gm) (by have hx := LTS.out; omega) (.bool sm) (.slice mm lm km)) (And.intro (HF.out.2.2.2.2.2.2.2.2.1.keep (BXm.out.keeps (by simp) (by simp) (.bool sm) (.slice mm lm km))) (And.intro (HF.out.2.2.2.2.2.2.2.2.2.1.other (C := gm) (by have hx := LTS.out; omega) (.bool sm) (.slice mm lm km)) (HF.out.2.2.2.2.2.2.2.2.2.2.keep (BXm.out.keeps (by simp) (by simp) (.bool sm) (.slice mm lm km)))))))))))))
          replace TM := hide (TM.out.keep (BXm.out.keeps (by simp) (by simp) (.bool sm) (.slice mm lm km)))
          replace BXm := hide (BXm.out.put (.bool sm) (.slice mm lm km))
          refine hK _ _ (fun _ => HF'.out) ?_
          clear hK K HF hc0 hf0 hc1 hf1
          have HF := hide HF'.out
          clear HF'
          generalize ((wzm.setCell ⟨gm, 0, none⟩ (.bool sm)).setCell ⟨gm, 1, none⟩ (.slice mm lm km)) = ws1 at *
          refine Calm.done (by kernel_rfl) ?_
          go_wp2
          go_meet
          case rel => exact ⟨gm, sm, mm, lm, km, rfl, HF.out, BXm.out, TM.out⟩
        · go_simp
          have al := below_alloc u6 (.cells #[.bool false, .slice none 0 0] 30)
          have HF' := hide (And.intro (HF.out.1.trans ((al).mono HF.out.1.size)) (And.intro (HF.out.2.1.step (al)) (And.intro (HF.out.2.2.1.below (al)) (And.intro (HF.out.2.2.2.1.step (al)) (And.intro (HF.out.2.2.2.2.1.below (al)) (And.intro (HF.out.2.2.2.2.2.1.step (al)) (And.intro (HF.out.2.2.2.2.2.2.1.below (al)) (And.intro (HF.out.2.2.2.2.2.2.2.1.step (al)) (And.intro (HF.out.2.2.2.2.2.2.2.2.1.below (al)) (And.intro (HF.out.2.2.2.2.2.2.2.2.2.1.step (al)) (HF.out.2.2.2.2.2.2.2.2.2.2.below (al))))))))))))
          have BXm := hide (Box2.new u6 30 (.bool false) (.slice none 0 0))
          replace TA := hide (TA.out.below (al))
          replace TB := hide (TB.out.below (al))
          have LT1m := hide (HF.out.2.1.lt)
          have LT3m := hide (HF.out.2.2.2.1.lt)
          have LT5m := hide (HF.out.2.2.2.2.2.1.lt)
          have LT7m := hide (HF.out.2.2.2.2.2.2.2.1.lt)
          have LT9m := hide (HF.out.2.2.2.2.2.2.2.2.2.1.lt)
          have GEm := hide (HF.out.1.size)
          refine hK _ _ (fun _ => HF'.out) ?_
          clear hK K HF al
          have HF := hide HF'.out
          clear HF'
          generalize u6.alloc (.cells #[.bool false, .slice none 0 0] 30) = wzm at *
          generalize u6.heap.size = gm at *
          refine Calm.one (i := 6) (l' := #[true, true, true, true, true, true, true, true, false]) (by kernel_rfl) rfl rfl rfl fun K hK => ?_
          go_simp
          refine (radd2_any _ _ (u * X) (v * Y) _ TA.out TB.out (SzI.dlen (SzI.mul SUV.out.1 SX.out) (by decide)) (SzI.dlen (SzI.mul SUV.out.2 SY.out) (by decide))).mono ?_
          rintro e u7 ⟨v', rfl, n, hb⟩
          rw [BZ.out.2.1] at n
          obtain ⟨sm, mm, lm, km, rfl, n⟩ := n.cells
          clear TA
          clear TB
          replace BXm := hide (BXm.out.step hb)
          have HF' := hide (And.intro (HF.out.1.trans ((hb).mono HF.out.1.size)) (And.intro (HF.out.2.1.step (hb)) (And.intro (HF.out.2.2.1.below (hb)) (And.intro (HF.out.2.2.2.1.step (hb)) (And.intro (HF.out.2.2.2.2.1.below (hb)) (And.intro (HF.out.2.2.2.2.2.1.step (hb)) (And.intro (HF.out.2.2.2.2.2.2.1.below (hb)) (And.intro (HF.out.2.2.2.2.2.2.2.1.step (hb)) (And.intro (HF.out.2.2.2.2.2.2.2.2.1.below (hb)) (And.intro (HF.out.2.2.2.2.2.2.2.2.2.1.step (hb)) (HF.out.2.2.2.2.2.2.2.2.2.2.below (hb))))))))))))
          have TM := hide (n)
          refine hK _ _ (fun _ => HF'.out) ?_
          clear hK K HF hb n
          have HF := hide HF'.out
          clear HF'
          refine Calm.one (i := 8) (l' := #[true, true, true, true, true, true, true, true, true]) (by kernel_rfl) rfl rfl rfl fun K hK => ?_
          have LTS := hide (And.intro (LT1m.out) (And.intro (LT3m.out) (And.intro (LT5m.out) (And.intro (LT7m.out) (And.intro (LT9m.out) (GEm.out))))))
          have hc0 := BXm.out.cell0
          have hc1 := BXm.out.cell1
          have hf0 := BXm.out.free 0
          have hf1 := BXm.out.free 1
          go_simp
          have HF' := hide (And.intro (below_put HF.out.1 (show w.heap.size ≤ gm by have hx := LTS.out; omega) (.bool sm) (.slice mm lm km)) (And.intro (HF.out.2.1.other (C := gm) (by have hx := LTS.out; omega) (.bool sm) (.slice mm lm km)) (And.intro (HF.out.2.2.1.keep (BXm.out.keeps (by simp) (by simp) (.bool sm) (.slice mm lm km))) (And.intro (HF.out.2.2.2.1.other (C := gm) (by have hx := LTS.out; omega) (.bool sm) (.slice mm lm km)) (And.intro (HF.out.2.2.2.2.1.keep (BXm.out.keeps (by simp) (by simp) (.bool sm) (.slice mm lm km))) (And.intro (HF.out.2.2.2.2.2.1.other (C := gm) (by have hx := LTS.out; omega) (.bool sm) (.slice mm lm km)) (And.intro (HF.out.2.2.2.2.2.2.1.keep (BXm.out.keeps (by simp) (by simp) (.bool sm) (.slice mm lm km))) (And.intro (HF.out.2.2.2.2.2.2.2.1.other (C := gm) (by have hx := LTS.out; omega) (.bool sm) (.slice mm lm km)) (And.intro (HF.out.2.2.2.2.2.2.2.2.1.keep (BXm.out.keeps (by simp) (by simp) (.bool sm) (.slice mm lm km))) (And.intro (HF.out.2.2.2.2.2.2.2.2.2.1.other (C := gm) (by have hx := LTS.out; omega) (.bool sm) (.slice mm lm km)) (HF.out.2.2.2.2.2.2.2.2.2.2.keep (BXm.out.keeps (by simp) (by simp) (.bool sm) (.slice mm lm km)))))))))))))
          replace TM := hide (TM.out.keep (BXm.out.keeps (by simp) (by simp) (.bool sm) (.slice mm lm km)))
          replace BXm := hide (BXm.out.put (.bool sm) (.slice mm lm km))
          refine hK _ _ (fun _ => HF'.out) ?_
          clear hK K HF hc0 hf0 hc1 hf1
          have HF := hide HF'.out
          clear HF'
          generalize ((u7.setCell ⟨gm, 0, none⟩ (.bool sm)).setCell ⟨gm, 1, none⟩ (.slice mm lm km)) = ws1 at *
          refine Calm.done (by kernel_rfl) ?_
          go_wp2
          go_meet
          case rel => exact ⟨gm, sm, mm, lm, km, rfl, HF.out, BXm.out, TM.out⟩
      · go_simp
        have al := below_alloc u5 (.cells #[.bool false, .slice none 0 0] 30)
        have HF' := hide (And.intro (HF.out.1.trans ((al).mono HF.out.1.size)) (And.intro (HF.out.2.1.step (al)) (And.intro (HF.out.2.2.1.below (al)) (And.intro (HF.out.2.2.2.1.step (al)) (And.intro (HF.out.2.2.2.2.1.below (al)) (And.intro (HF.out.2.2.2.2.2.1.step (al)) (And.intro (HF.out.2.2.2.2.2.2.1.below (al)) (And.intro (HF.out.2.2.2.2.2.2.2.1.step (al)) (And.intro (HF.out.2.2.2.2.2.2.2.2.1.below (al)) (And.intro (HF.out.2.2.2.2.2.2.2.2.2.1.step (al)) (HF.out.2.2.2.2.2.2.2.2.2.2.below (al))))))))))))
        have BXm := hide (Box2.new u5 30 (.bool false) (.slice none 0 0))
        replace TA := hide (TA.out.below (al))
        have LT1m := hide (HF.out.2.1.lt)
        have LT3m := hide (HF.out.2.2.2.1.lt)
        have LT5m := hide (HF.out.2.2.2.2.2.1.lt)
        have LT7m := hide (HF.out.2.2.2.2.2.2.2.1.lt)
        have LT9m := hide (HF.out.2.2.2.2.2.2.2.2.2.1.lt)
        have GEm := hide (HF.out.1.size)
        refine hK _ _ (fun _ => HF'.out) ?_
        clear hK K HF al
        have HF := hide HF'.out
        clear HF'
        generalize u5.alloc (.cells #[.bool false, .slice none 0 0] 30) = wzm at *
        generalize u5.heap.size = gm at *
        refine Calm.one (i := 5) (l' := #[true, true, true, true, true, true, false, true, false]) (by kernel_rfl) rfl rfl rfl fun K hK => ?_
        go_simp
        refine (rmul2_any _ _ v Y _ HF.out.2.2.2.2.2.2.2.2.2.2 HF.out.2.2.2.2.1 (SzI.dlen SUV.out.2 (by decide)) (SzI.dlen SY.out (by decide))).mono ?_
        rintro e u6 ⟨v', rfl, n, hb⟩
        replace TA := hide (TA.out.below (hb))
        replace BXm := hide (BXm.out.step hb)
        have HF' := hide (And.intro (HF.out.1.trans ((hb).mono HF.out.1.size)) (And.intro (HF.out.2.1.step (hb)) (And.intro (HF.out.2.2.1.below (hb)) (And.intro (HF.out.2.2.2.1.step (hb)) (And.intro (HF.out.2.2.2.2.1.below (hb)) (And.intro (HF.out.2.2.2.2.2.1.step (hb)) (And.intro (HF.out.2.2.2.2.2.2.1.below (hb)) (And.intro (HF.out.2.2.2.2.2.2.2.1.step (hb)) (And.intro (HF.out.2.2.2.2.2.2.2.2.1.below (hb)) (And.intro (HF.out.2.2.2.2.2.2.2.2.2.1.step (hb)) (HF.out.2.2.2.2.2.2.2.2.2.2.below (hb))))))))))))
        have TB := hide (n)
        refine hK _ _ (fun _ => HF'.out) ?_
        clear hK K HF hb n
        have HF := hide HF'.out
        clear HF'
        refine Calm.one (i := 6) (l' := #[true, true, true, true, true, true, true, true, false]) (by kernel_rfl) rfl rfl rfl fun K hK => ?_
        go_simp
        refine (radd2_any _ _ (u * X) (v * Y) _ TA.out TB.out (SzI.dlen (SzI.mul SUV.out.1 SX.out) (by decide)) (SzI.dlen (SzI.mul SUV.out.2 SY.out) (by decide))).mono ?_
        rintro e u7 ⟨v', rfl, n, hb⟩
        rw [BZ.out.2.1] at n
        obtain ⟨sm, mm, lm, km, rfl, n⟩ := n.cells
        clear TA
        clear TB
        replace BXm := hide (BXm.out.step hb)
        have HF' := hide (And.intro (HF.out.1.trans ((hb).mono HF.out.1.size)) (And.intro (HF.out.2.1.step (hb)) (And.intro (HF.out.2.2.1.below (hb)) (And.intro (HF.out.2.2.2.1.step (hb)) (And.intro (HF.out.2.2.2.2.1.below (hb)) (And.intro (HF.out.2.2.2.2.2.1.step (hb)) (And.intro (HF.out.2.2.2.2.2.2.1.below (hb)) (And.intro (HF.out.2.2.2.2.2.2.2.1.step (hb)) (And.intro (HF.out.2.2.2.2.2.2.2.2.1.below (hb)) (And.intro (HF.out.2.2.2.2.2.2.2.2.2.1.step (hb)) (HF.out.2.2.2.2.2.2.2.2.2.2.below (hb))))))))))))
        have TM := hide (n)
        refine hK _ _ (fun _ => HF'.out) ?_
        clear hK K HF hb n
        have HF := hide HF'.out
        clear HF'
        refine Calm.one (i := 8) (l' := #[true, true, true, true, true, true, true, true, true]) (by kernel_rfl) rfl rfl rfl fun K hK => ?_
        have LTS := hide (And.intro (LT1m.out) (And.intro (LT3m.out) (And.intro (LT5m.out) (And.intro (LT7m.out) (And.intro (LT9m.out) (GEm.out))))))
        have hc0 := BXm.out.cell0
        have hc1 := BXm.out.cell1
        have hf0 := BXm.out.free 0
        have hf1 := BXm.out.free 1
        go_simp
        have HF' := hide (And.intro (below_put HF.out.1 (show w.heap.size ≤ gm by have hx := LTS.out; omega) (.bool sm) (.slice mm lm km)) (And.intro (HF.out.2.1.other (C := gm) (by have hx := LTS.out; omega) (.bool sm) (.slice mm lm km)) (And.intro (HF.out.2.2.1.keep (BXm.out.keeps (by simp) (by simp) (.bool sm) (.slice mm lm km))) (And.intro (HF.out.2.2.2.1.other (C := gm) (by have hx := LTS.out; omega) (.bool sm) (.slice mm lm km)) (And.intro (HF.out.2.2.2.2.1.keep (BXm.out.keeps (by simp) (by simp) (.bool sm) (.slice mm lm km))) (And.intro (HF.out.2.2.2.2.2.1.other (C := gm) (by have hx := LTS.out; omega) (.bool sm) (.slice mm lm km)) (And.intro (HF.out.2.2.2.2.2.2.1.keep (BXm.out.keeps (by simp) (by simp) (.bool sm) (.slice mm lm km))) (And.intro (HF.out.2.2.2.2.2.2.2.1.other (C := gm) (by have hx := LTS.out; omega) (.bool sm) (.slice mm lm km)) (And.intro (HF.out.2.2.2.2.2.2.2.2.1.keep (BXm.out.keeps (by simp) (by simp) (.bool sm) (.slice mm lm km))) (And.intro (HF.out.2.2.2.2.2.2.2.2.2.1.other (C := gm) (by have hx := LTS.out; omega) (.bool sm) (.slice mm lm km)) (HF.out.2.2.2.2.2.2.2.2.2.2.keep (BXm.out.keeps (by simp) (by simp) (.bool sm) (.slice mm lm km)))))))))))))
        replace TM := hide (TM.out.keep (BXm.out.keeps (by simp) (by simp) (.bool sm) (.slice mm lm km)))
        replace BXm := hide (BXm.out.put (.bool sm) (.slice mm lm km))
        refine hK _ _ (fun _ => HF'.out) ?_
        clear hK K HF hc0 hf0 hc1 hf1
        have HF := hide HF'.out
        clear HF'
        generalize ((u7.setCell ⟨gm, 0, none⟩ (.bool sm)).setCell ⟨gm, 1, none⟩ (.slice mm lm km)) = ws1 at *
        refine Calm.done (by kernel_rfl) ?_
        go_wp2
        go_meet
        case rel => exact ⟨gm, sm, mm, lm, km, rfl, HF.out, BXm.out, TM.out⟩
    · go_simp
      have al := below_alloc t5d (.cells #[.bool false, .slice none 0 0] 30)
      have HF' := hide (And.intro (HF.out.1.trans ((al).mono HF.out.1.size)) (And.intro (HF.out.2.1.step (al)) (And.intro (HF.out.2.2.1.below (al)) (And.intro (HF.out.2.2.2.1.step (al)) (And.intro (HF.out.2.2.2.2.1.below (al)) (And.intro (HF.out.2.2.2.2.2.1.step (al)) (And.intro (HF.out.2.2.2.2.2.2.1.below (al)) (And.intro (HF.out.2.2.2.2.2.2.2.1.step (al)) (And.intro (HF.out.2.2.2.2.2.2.2.2.1.below (al)) (And.intro (HF.out.2.2.2.2.2.2.2.2.2.1.step (al)) (HF.out.2.2.2.2.2.2.2.2.2.2.below (al))))))))))))
      have BXm := hide (Box2.new t5d 30 (.bool false) (.slice none 0 0))
      have LT1m := hide (HF.out.2.1.lt)
      have LT3m := hide (HF.out.2.2.2.1.lt)
      have LT5m := hide (HF.out.2.2.2.2.2.1.lt)
      have LT7m := hide (HF.out.2.2.2.2.2.2.2.1.lt)
      have LT9m := hide (HF.out.2.2.2.2.2.2.2.2.2.1.lt)
      have GEm := hide (HF.out.1.size)
      refine hK _ _ (fun _ => HF'.out) ?_
      clear hK K HF al
      have HF := hide HF'.out
      clear HF'
      generalize t5d.alloc (.cells #[.bool false, .slice none 0 0] 30) = wzm at *
      generalize t5d.heap.size = gm at *
      refine Calm.one (i := 2) (l' := #[true, true, true, true, true, false, false, true, false]) (by kernel_rfl) rfl rfl rfl fun K hK => ?_
      go_simp
      refine (rmul2_any _ _ u X _ HF.out.2.2.2.2.2.2.2.2.1 HF.out.2.2.1 (SzI.dlen SUV.out.1 (by decide)) (SzI.dlen SX.out (by decide))).mono ?_
      rintro e u5 ⟨v', rfl, n, hb⟩
      replace BXm := hide (BXm.out.step hb)
      have HF' := hide (And.intro (HF.out.1.trans ((hb).mono HF.out.1.size)) (And.intro (HF.out.2.1.step (hb)) (And.intro (HF.out.2.2.1.below (hb)) (And.intro (HF.out.2.2.2.1.step (hb)) (And.intro (HF.out.2.2.2.2.1.below (hb)) (And.intro (HF.out.2.2.2.2.2.1.step (hb)) (And.intro (HF.out.2.2.2.2.2.2.1.below (hb)) (And.intro (HF.out.2.2.2.2.2.2.2.1.step (hb)) (And.intro (HF.out.2.2.2.2.2.2.2.2.1.below (hb)) (And.intro (HF.out.2.2.2.2.2.2.2.2.2.1.step (hb)) (HF.out.2.2.2.2.2.2.2.2.2.2.below (hb))))))))))))
      have TA := hide (n)
      refine hK _ _ (fun _ => HF'.out) ?_
      clear hK K HF hb n
      have HF := hide HF'.out
      clear HF'
      refine Calm.one (i := 5) (l' := #[true, true, true, true, true, true, false, true, false]) (by kernel_rfl) rfl rfl rfl fun K hK => ?_
      go_simp
      refine (rmul2_any _ _ v Y _ HF.out.2.2.2.2.2.2.2.2.2.2 HF.out.2.2.2.2.1 (SzI.dlen SUV.out.2 (by decide)) (SzI.dlen SY.out (by decide))).mono ?_
      rintro e u6 ⟨v', rfl, n, hb⟩
      replace TA := hide (TA.out.below (hb))
      replace BXm := hide (BXm.out.step hb)
      have HF' := hide (And.intro (HF.out.1.trans ((hb).mono HF.out.1.size)) (And.intro (HF.out.2.1.step (hb)) (And.intro (HF.out.2.2.1.below (hb)) (And.intro (HF.out.2.2.2.1.step (hb)) (And.intro (HF.out.2.2.2.2.1.below (hb)) (And.intro (HF.out.2.2.2.2.2.1.step (hb)) (And.intro (HF.out.2.2.2.2.2.2.1.below (hb)) (And.intro (HF.out.2.2.2.2.2.2.2.1.step (hb)) (And.intro (HF.out.2.2.2.2.2.2.2.2.1.below (hb)) (And.intro (HF.out.2.2.2.2.2.2.2.2.2.1.step (hb)) (HF.out.2.2.2.2.2.2.2.2.2.2.below (hb))))))))))))
      have TB := hide (n)
      refine hK _ _ (fun _ => HF'.out) ?_
      clear hK K HF hb n
      have HF := hide HF'.out
      clear HF'
      refine Calm.one (i := 6) (l' := #[true, true, true, true, true, true, true, true, false]) (by kernel_rfl) rfl rfl rfl fun K hK => ?_
      go_simp
      refine (radd2_any _ _ (u * X) (v * Y) _ TA.out TB.out (SzI.dlen (SzI.mul SUV.out.1 SX.out) (by decide)) (SzI.dlen (SzI.mul SUV.out.2 SY.out) (by decide))).mono ?_
      rintro e u7 ⟨v', rfl, n, hb⟩
      rw [BZ.out.2.1] at n
      obtain ⟨sm, mm, lm, km, rfl, n⟩ := n.cells
      clear TA
      clear TB
      replace BXm := hide (BXm.out.step hb)
      have HF' := hide (And.intro (HF.out.1.trans ((hb).mono HF.out.1.size)) (And.intro (HF.out.2.1.step (hb)) (And.intro (HF.out.2.2.1.below (hb)) (And.intro (HF.out.2.2.2.1.step (hb)) (And.intro (HF.out.2.2.2.2.1.below (hb)) (And.intro (HF.out.2.2.2.2.2.1.step (hb)) (And.intro (HF.out.2.2.2.2.2.2.1.below (hb)) (And.intro (HF.out.2.2.2.2.2.2.2.1.step (hb)) (And.intro (HF.out.2.2.2.2.2.2.2.2.1.below (hb)) (And.intro (HF.out.2.2.2.2.2.2.2.2.2.1.step (hb)) (HF.out.2.2.2.2.2.2.2.2.2.2.below (hb))))))))))))
      have TM := hide (n)
      refine hK _ _ (fun _ => HF'.out) ?_
      clear hK K HF hb n
      have HF := hide HF'.out
      clear HF'
      refine Calm.one (i := 8) (l' := #[true, true, true, true, true, true, true, true, true]) (by kernel_rfl) rfl rfl rfl fun K hK => ?_
      have LTS := hide (And.intro (LT1m.out) (And.intro (LT3m.out) (And.intro (LT5m.out) (And.intro (LT7m.out) (And.intro (LT9m.out) (GEm.out))))))
      have hc0 := BXm.out.cell0
      have hc1 := BXm.out.cell1
      have hf0 := BXm.out.free 0
      have hf1 := BXm.out.free 1
      go_simp
      have HF' := hide (And.intro (below_put HF.out.1 (show w.heap.size ≤ gm by have hx := LTS.out; omega) (.bool sm) (.slice mm lm km)) (And.intro (HF.out.2.1.other (C := gm) (by have hx := LTS.out; omega) (.bool sm) (.slice mm lm km)) (And.intro (HF.out.2.2.1.keep (BXm.out.keeps (by simp) (by simp) (.bool sm) (.slice mm lm km))) (And.intro (HF.out.2.2.2.1.other (C := gm) (by have hx := LTS.out; omega) (.bool sm) (.slice mm lm km)) (And.intro (HF.out.2.2.2.2.1.keep (BXm.out.keeps (by simp) (by simp) (.bool sm) (.slice mm lm km))) (And.intro (HF.out.2.2.2.2.2.1.other (C := gm) (by have hx := LTS.out; omega) (.bool sm) (.slice mm lm km)) (And.intro (HF.out.2.2.2.2.2.2.1.keep (BXm.out.keeps (by simp) (by simp) (.bool sm) (.slice mm lm km))) (And.intro (HF.out.2.2.2.2.2.2.2.1.other (C := gm) (by have hx := LTS.out; omega) (.bool sm) (.slice mm lm km)) (And.intro (HF.out.2.2.2.2.2.2.2.2.1.keep (BXm.out.keeps (by simp) (by simp) (.bool sm) (.slice mm lm km))) (And.intro (HF.out.2.2.2.2.2.2.2.2.2.1.other (C := gm) (by have hx := LTS.out; omega) (.bool sm) (.slice mm lm km)) (HF.out.2.2.2.2.2.2.2.2.2.2.keep (BXm.out.keeps (by simp) (by simp) (.bool sm) (.slice mm lm km)))))))))))))
      replace TM := hide (TM.out.keep (BXm.out.keeps (by simp) (by simp) (.bool sm) (.slice mm lm km)))
      replace BXm := hide (BXm.out.put (.bool sm) (.slice mm lm km))
      refine hK _ _ (fun _ => HF'.out) ?_
      clear hK K HF hc0 hf0 hc1 hf1
      have HF := hide HF'.out
      clear HF'
      generalize ((u7.setCell ⟨gm, 0, none⟩ (.bool sm)).setCell ⟨gm, 1, none⟩ (.slice mm lm km)) = ws1 at *
      refine Calm.done (by kernel_rfl) ?_
      go_wp2
      go_meet
      case rel => exact ⟨gm, sm, mm, lm, km, rfl, HF.out, BXm.out, TM.out⟩
  case rest =>
    obtain ⟨gm, sm, mm, lm, km, rfl, ⟨hHB, hPp, hIp, hPq, hIq, hBw, hTw, hBs, hTs, hBt, hTt⟩, hPm, hTm⟩ := hcut
    clear HB Pp Ip Pq Iq Bw Tw Bs Ts Bt Tt
    have HB := hide hHB
    have Pp := hide hPp
    have Ip := hide hIp
    have Pq := hide hPq
    have Iq := hide hIq
    have Bw := hide hBw
    have Tw := hide hTw
    have Bs := hide hBs
    have Ts := hide hTs
    have Bt := hide hBt
    have Tt := hide hTt
    have Bm := hide hPm
    have Tm := hide hTm
    clear hHB hPp hIp hPq hIq hBw hTw hBs hTs hBt hTt hPm hTm
    generalize hwc : wc = t6 at *
    clear hwc
    have p0 := Bm.out.cell0
    have p1 := Bm.out.cell1
    have d0 := Bw.out.cell0
    have d1 := Bw.out.cell1
    go_wp2_with fail
    refine (rsame_yes _ _ _ _ Tm.out Tw.out).mono ?_
    rintro e t7 ⟨rfl, hb⟩
    clear p0 p1 d0 d1
    replace HB := hide (HB.out.trans ((hb).mono HB.out.size))
    replace Tw := hide (Tw.out.below (hb))
    replace Bw := hide (Bw.out.step (hb))
    replace Ts := hide (Ts.out.below (hb))
    replace Tt := hide (Tt.out.below (hb))
    replace Bs := hide (Bs.out.step (hb))
    replace Bt := hide (Bt.out.step (hb))
    replace Pp := hide (Pp.out.step (hb))
    replace Ip := hide (Ip.out.below (hb))
    replace Pq := hide (Pq.out.step (hb))
    replace Iq := hide (Iq.out.below (hb))
    replace Bm := hide (Bm.out.step (hb))
    replace Tm := hide (Tm.out.below (hb))
    clear hb
    clear Bm
    clear Tm
    have d0 := Pq.out.cell0
    have d1 := Pq.out.cell1
    go_wp2_with fail
    refine (rsign_any _ Y _ Iq.out).mono ?_
    rintro e t8 ⟨rfl, hb⟩
    clear d0 d1
    replace HB := hide (HB.out.trans ((hb).mono HB.out.size))
    replace Tw := hide (Tw.out.below (hb))
    replace Bw := hide (Bw.out.step (hb))
    replace Ts := hide (Ts.out.below (hb))
    replace Tt := hide (Tt.out.below (hb))
    replace Bs := hide (Bs.out.step (hb))
    replace Bt := hide (Bt.out.step (hb))
    replace Pp := hide (Pp.out.step (hb))
    replace Ip := hide (Ip.out.below (hb))
    replace Pq := hide (Pq.out.step (hb))
    replace Iq := hide (Iq.out.below (hb))
    clear hb
    by_cases hY : Y = 0
    · have SG : sgnI Y = 0 := by rw [hY]; rfl
      have HYZ := hide hY
      have HUV := hide (BZ.out.2.2.1 hY)
      rw [SG]
      clear SG hY
      rw [HUV.out.1] at Ts
      rw [HUV.out.2] at Tt
      go_wp2_with fail
      refine wp_calm (fun w' => Below w.heap.size w w' ∧ Box2 w' (gx + 1) 30 (.bool sp) (.slice mp lp kp) ∧ RInt w' (.agg #[.bool sp, .slice mp lp kp]) X ∧ Box2 w' gs 30 (.bool ss) (.slice ms ls ks) ∧ RInt w' (.agg #[.bool ss, .slice ms ls ks]) (sgnI X) ∧ Box2 w' (gs + 1) 30 (.bool st) (.slice mt lt kt) ∧ RInt w' (.agg #[.bool st, .slice mt lt kt]) 0) (fun _ => true) 11 #[false, false, false, false, false, false, false, false, false, false, false] (by kernel_rfl) rfl rfl ?_
      have HF := hide (And.intro (HB.out.drew) (And.intro (Pp.out.drew) (And.intro (Ip.out.drew) (And.intro (Bs.out.drew) (And.intro (Ts.out.drew) (And.intro (Bt.out.drew) (Tt.out.drew)))))))
      generalize t8.drew = t8d at *
      refine Calm.take (i := 0) (v := ?_) (a' := ?_) (l' := #[true, false, false, false, false, false, false, false, false, false, false]) (d := some 94) rfl (by kernel_rfl) (by kernel_rfl) (by kernel_rfl) (by kernel_rfl) (fun _ _ _ h => h) HF.out rfl ?_ rfl rfl ?_ ?_
      rotate_left
      · intro w' hF; have f10 := hF.2.1.cell0; have f11 := hF.2.1.cell1; have f30 := hF.2.2.2.1.cell0; have f31 := hF.2.2.2.1.cell1; have f50 := hF.2.2.2.2.2.1.cell0; have f51 := hF.2.2.2.2.2.1.cell1; clear hF; go_simp; try rfl
      rotate_left
      · simp only [Act.put]; exact rfl
      refine Calm.take (i := 1) (v := ?_) (a' := ?_) (l' := #[true, true, false, false, false, false, false, false, false, false, false]) (d := some 95) rfl (by kernel_rfl) (by kernel_rfl) (by kernel_rfl) (by kernel_rfl) (fun _ _ _ h => h) HF.out rfl ?_ rfl rfl ?_ ?_
      rotate_left
      · intro w' hF; have f10 := hF.2.1.cell0; have f11 := hF.2.1.cell1; have f30 := hF.2.2.2.1.cell0; have f31 := hF.2.2.2.1.cell1; have f50 := hF.2.2.2.2.2.1.cell0; have f51 := hF.2.2.2.2.2.1.cell1; clear hF; go_simp; try rfl
      rotate_left
      · simp only [Act.put]; exact rfl
      refine Calm.one (i := 2) (l' := #[true, true, true, false, false, false, false, false, false, false, false]) (by kernel_rfl) rfl rfl rfl fun K hK => ?_
      go_simp
      refine (rsign_any _ X _ HF.out.2.2.1).mono ?_
      rintro e u8 ⟨rfl, hb⟩
      have HF' := hide (And.intro (HF.out.1.trans ((hb).mono HF.out.1.size)) (And.intro (HF.out.2.1.step (hb)) (And.intro (HF.out.2.2.1.below (hb)) (And.intro (HF.out.2.2.2.1.step (hb)) (And.intro (HF.out.2.2.2.2.1.below (hb)) (And.intro (HF.out.2.2.2.2.2.1.step (hb)) (HF.out.2.2.2.2.2.2.below (hb))))))))
      refine hK _ _ (fun _ => HF'.out) ?_
      clear hK K HF hb
      have HF := hide HF'.out
      clear HF'
      refine Calm.one (i := 3) (l' := #[true, true, true, true, false, false, false, false, false, false, false]) (by kernel_rfl) rfl rfl rfl fun K hK => ?_
      go_simp
      refine (rof_any (sgnI X) _ (sgnI_lo _) (sgnI_hi _)).mono ?_
      rintro e u9 ⟨v', rfl, n, hb⟩
      have HF' := hide (And.intro (HF.out.1.trans ((hb).mono HF.out.1.size)) (And.intro (HF.out.2.1.step (hb)) (And.intro (HF.out.2.2.1.below (hb)) (And.intro (HF.out.2.2.2.1.step (hb)) (And.intro (HF.out.2.2.2.2.1.below (hb)) (And.intro (HF.out.2.2.2.2.2.1.step (hb)) (HF.out.2.2.2.2.2.2.below (hb))))))))
      have TO := hide (n)
      refine hK _ _ (fun _ => HF'.out) ?_
      clear hK K HF hb n
      have HF := hide HF'.out
      clear HF'
      refine Calm.one (i := 4) (l' := #[true, true, true, true, true, false, false, false, false, false, false]) (by kernel_rfl) rfl rfl rfl fun K hK => ?_
      go_simp
      refine (rsame_yes _ _ _ _ HF.out.2.2.2.2.1 TO.out).mono ?_
      rintro e u10 ⟨rfl, hb⟩
      clear TO
      have HF' := hide (And.intro (HF.out.1.trans ((hb).mono HF.out.1.size)) (And.intro (HF.out.2.1.step (hb)) (And.intro (HF.out.2.2.1.below (hb)) (And.intro (HF.out.2.2.2.1.step (hb)) (And.intro (HF.out.2.2.2.2.1.below (hb)) (And.intro (HF.out.2.2.2.2.2.1.step (hb)) (HF.out.2.2.2.2.2.2.below (hb))))))))
      refine hK _ _ (fun _ => HF'.out) ?_
      clear hK K HF hb
      have HF := hide HF'.out
      clear HF'
      refine Calm.take (i := 5) (v := ?_) (a' := ?_) (l' := #[true, true, true, true, true, true, false, false, false, false, false]) (d := some 99) rfl (by kernel_rfl) (by kernel_rfl) (by kernel_rfl) (by kernel_rfl) (fun _ _ _ h => h) HF.out rfl ?_ rfl rfl ?_ ?_
      rotate_left
      · intro w' hF; clear hF; go_simp; try rfl
      rotate_left
      · simp only [Act.put]; exact rfl
      refine Calm.take (i := 6) (v := ?_) (a' := ?_) (l' := #[true, true, true, true, true, true, true, false, false, false, false]) (d := some 100) rfl (by kernel_rfl) (by kernel_rfl) (by kernel_rfl) (by kernel_rfl) (fun _ _ _ h => h) HF.out (by kernel_rfl) ?_ rfl rfl ?_ ?_
      rotate_left
      · intro w' hF; have f10 := hF.2.1.cell0; have f11 := hF.2.1.cell1; have f30 := hF.2.2.2.1.cell0; have f31 := hF.2.2.2.1.cell1; have f50 := hF.2.2.2.2.2.1.cell0; have f51 := hF.2.2.2.2.2.1.cell1; clear hF; go_simp; try rfl
      rotate_left
      · simp only [Act.put]; exact rfl
      refine Calm.one (i := 7) (l' := #[true, true, true, true, true, true, true, true, false, false, false]) (by kernel_rfl) rfl (by kernel_rfl) rfl fun K hK => ?_
      go_simp
      refine (rsign_any _ 0 _ HF.out.2.2.2.2.2.2).mono ?_
      rintro e u11 ⟨rfl, hb⟩
      have HF' := hide (And.intro (HF.out.1.trans ((hb).mono HF.out.1.size)) (And.intro (HF.out.2.1.step (hb)) (And.intro (HF.out.2.2.1.below (hb)) (And.intro (HF.out.2.2.2.1.step (hb)) (And.intro (HF.out.2.2.2.2.1.below (hb)) (And.intro (HF.out.2.2.2.2.2.1.step (hb)) (HF.out.2.2.2.2.2.2.below (hb))))))))
      refine hK _ _ (fun _ => HF'.out) ?_
      clear hK K HF hb
      have HF := hide HF'.out
      clear HF'
      refine Calm.take (i := 8) (v := ?_) (a' := ?_) (l' := #[true, true, true, true, true, true, true, true, true, false, false]) (d := some 102) rfl (by kernel_rfl) (by kernel_rfl) (by kernel_rfl) (by kernel_rfl) (fun _ _ _ h => h) HF.out (by kernel_rfl) ?_ rfl rfl ?_ ?_
      rotate_left
      · intro w' hF; clear hF; go_simp; try rfl
      rotate_left
      · simp only [Act.put]; exact rfl
      refine Calm.take (i := 9) (v := ?_) (a' := ?_) (l' := #[true, true, true, true, true, true, true, true, true, true, false]) (d := some 103) rfl (by kernel_rfl) (by kernel_rfl) (by kernel_rfl) (by kernel_rfl) (fun _ _ _ h => h) HF.out rfl ?_ rfl rfl ?_ ?_
      rotate_left
      · intro w' hF; clear hF; go_simp; try rfl
      rotate_left
      · simp only [Act.put]; exact rfl
      refine Calm.take (i := 10) (v := ?_) (a' := ?_) (l' := #[true, true, true, true, true, true, true, true, true, true, true]) (d := some 4) rfl (by kernel_rfl) (by kernel_rfl) (by kernel_rfl) (by kernel_rfl) (fun _ _ _ h => h) HF.out rfl ?_ rfl rfl ?_ ?_
      rotate_left
      · intro w' hF; clear hF; go_simp; try rfl
      rotate_left
      · simp only [Act.put]; exact rfl
      refine Calm.done (by kernel_rfl) ?_
      replace HB := hide HF.out.1
      replace Pp := hide HF.out.2.1
      replace Ip := hide HF.out.2.2.1
      replace Bs := hide HF.out.2.2.2.1
      replace Ts := hide HF.out.2.2.2.2.1
      replace Bt := hide HF.out.2.2.2.2.2.1
      replace Tt := hide HF.out.2.2.2.2.2.2
      clear HF
      clear Tw
      clear Bw
      clear Pq
      clear Iq
      go_wp2
      go_ret
      exact ⟨rfl, HB.out⟩
    · have SG := sgnI_nez hY
      have HY := hide hY
      have HUV := hide (BZ.out.2.2.2 hY)
      clear hY
      generalize sgnI Y = sgy at *
      go_wp2_with fail
      clear SG
      have DNZ : Hid ((Int.gcd X Y : Int) ≠ 0) := hide (by have h : Int.gcd X Y ≠ 0 := fun h => HY.out (Int.gcd_eq_zero_iff.1 h).2; omega)
      have DDV : Hid ((Y.natAbs : Int) % (Int.gcd X Y : Int) = 0) := hide (Int.emod_eq_zero_of_dvd (Int.dvd_natAbs.2 (Int.gcd_dvd_right X Y)))
      go_cut [20] from 21 (fun pm wx => ∃ gm so mo lo ko, pm = .pointer (some ⟨gm, 0, none⟩) ∧ Below w.heap.size w wx ∧ Box2 wx gs 30 (.bool ss) (.slice ms ls ks) ∧ RInt wx (.agg #[.bool ss, .slice ms ls ks]) u ∧ Box2 wx gm 30 (.bool so) (.slice mo lo ko) ∧ RInt wx (.agg #[.bool so, .slice mo lo ko]) ((Y.natAbs : Int) / (Int.gcd X Y : Int)))
      case first =>
        refine wp_calm (fun w' => Below w.heap.size w w' ∧ Box2 w' (gy + 1) 30 (.bool sq) (.slice mq lq kq) ∧ RInt w' (.agg #[.bool sq, .slice mq lq kq]) Y ∧ Box2 w' gw 30 (.bool sw) (.slice mw lw kw) ∧ RInt w' (.agg #[.bool sw, .slice mw lw kw]) (Int.gcd X Y : Int) ∧ Box2 w' gs 30 (.bool ss) (.slice ms ls ks) ∧ RInt w' (.agg #[.bool ss, .slice ms ls ks]) u) (fun _ => true) 10 #[false, false, false, false, false, false, false, false, false, false] (by kernel_rfl) rfl rfl ?_
        have HF := hide (And.intro (HB.out.drew) (And.intro (Pq.out.drew) (And.intro (Iq.out.drew) (And.intro (Bw.out.drew) (And.intro (Tw.out.drew) (And.intro (Bs.out.drew) (Ts.out.drew)))))))
        generalize t8.drew = t8d at *
        refine Calm.take (i := 0) (v := ?_) (a' := ?_) (l' := #[true, false, false, false, false, false, false, false, false, false]) (d := some 105) rfl (by kernel_rfl) (by kernel_rfl) (by kernel_rfl) (by kernel_rfl) (fun _ _ _ h => h) HF.out rfl ?_ rfl rfl ?_ ?_
        rotate_left
        · intro w' hF; have f10 := hF.2.1.cell0; have f11 := hF.2.1.cell1; have f30 := hF.2.2.2.1.cell0; have f31 := hF.2.2.2.1.cell1; have f50 := hF.2.2.2.2.2.1.cell0; have f51 := hF.2.2.2.2.2.1.cell1; clear hF; go_simp; try rfl
        rotate_left
        · simp only [Act.put]; exact rfl
        refine Calm.take (i := 2) (v := ?_) (a' := ?_) (l' := #[true, false, true, false, false, false, false, false, false, false]) (d := some 107) rfl (by kernel_rfl) (by kernel_rfl) (by kernel_rfl) (by kernel_rfl) (fun _ _ _ h => h) HF.out rfl ?_ rfl rfl ?_ ?_
        rotate_left
        · intro w' hF; have f10 := hF.2.1.cell0; have f11 := hF.2.1.cell1; have f30 := hF.2.2.2.1.cell0; have f31 := hF.2.2.2.1.cell1; have f50 := hF.2.2.2.2.2.1.cell0; have f51 := hF.2.2.2.2.2.1.cell1; clear hF; go_simp; try rfl
        rotate_left
        · simp only [Act.put]; exact rfl
        refine Calm.two (i := 1) (j := 7) (l := #[true, true, true, false, false, false, false, false, false, false]) (l' := #[true, false, true, false, false, false, false, true, false, false]) (by kernel_rfl) rfl rfl rfl rfl rfl rfl (fun K hK => ?_) (fun K hK => ?_)
        · go_simp
          refine (rabs_any _ Y _ HF.out.2.2.1).mono ?_
          rintro e u8 ⟨v', rfl, n, hb⟩
          have HF' := hide (And.intro (HF.out.1.trans ((hb).mono HF.out.1.size)) (And.intro (HF.out.2.1.step (hb)) (And.intro (HF.out.2.2.1.below (hb)) (And.intro (HF.out.2.2.2.1.step (hb)) (And.intro (HF.out.2.2.2.2.1.below (hb)) (And.intro (HF.out.2.2.2.2.2.1.step (hb)) (HF.out.2.2.2.2.2.2.below (hb))))))))
          have TA := hide (n)
          refine hK _ _ (fun _ => HF'.out) ?_
          clear hK K HF hb n
          have HF := hide HF'.out
          clear HF'
          refine Calm.two (i := 3) (j := 7) (l := #[true, true, true, true, false, false, false, false, false, false]) (l' := #[true, true, true, false, false, false, false, true, false, false]) (by kernel_rfl) rfl rfl rfl rfl rfl rfl (fun K hK => ?_) (fun K hK => ?_)
          · go_simp
            refine (rover_any _ _ (Y.natAbs : Int) (Int.gcd X Y : Int) _ TA.out HF.out.2.2.2.2.1 (SzI.dl7 SY.out.abs (by decide)) (SzI.dl7 SD.out (by decide)) DNZ.out).mono ?_
            rintro e u9 ⟨v', z, bb, rfl, n, hor, hb⟩
            obtain ⟨rfl, rfl⟩ : z = (Y.natAbs : Int) / (Int.gcd X Y : Int) ∧ bb = true := by rcases hor with ⟨h1, _⟩ | ⟨_, h2, h3⟩; exact absurd DDV.out h1; exact ⟨h2, h3⟩
            obtain ⟨so, mo, lo, ko, rfl, n⟩ := n.cells
            clear TA
            have HF' := hide (And.intro (HF.out.1.trans ((hb).mono HF.out.1.size)) (And.intro (HF.out.2.1.step (hb)) (And.intro (HF.out.2.2.1.below (hb)) (And.intro (HF.out.2.2.2.1.step (hb)) (And.intro (HF.out.2.2.2.2.1.below (hb)) (And.intro (HF.out.2.2.2.2.2.1.step (hb)) (HF.out.2.2.2.2.2.2.below (hb))))))))
            have TO := hide (n)
            refine hK _ _ (fun _ => HF'.out) ?_
            clear hK K HF hb n hor
            have HF := hide HF'.out
            clear HF'
            refine Calm.take (i := 4) (v := ?_) (a' := ?_) (l' := #[true, true, true, true, true, false, false, false, false, false]) (d := some 104) rfl (by kernel_rfl) (by kernel_rfl) (by kernel_rfl) (by kernel_rfl) (fun _ _ _ h => h) HF.out rfl ?_ rfl rfl ?_ ?_
            rotate_left
            · intro w' hF; clear hF; go_simp; try rfl
            rotate_left
            · simp only [Act.put]; exact rfl
            refine Calm.take (i := 5) (v := ?_) (a' := ?_) (l' := #[true, true, true, true, true, true, false, false, false, false]) (d := some 109) rfl (by kernel_rfl) (by kernel_rfl) (by kernel_rfl) (by kernel_rfl) (fun _ _ _ h => h) HF.out rfl ?_ rfl rfl ?_ ?_
            rotate_left
            · intro w' hF; clear hF; go_simp; try rfl
            rotate_left
            · simp only [Act.put]; exact rfl
            refine Calm.take (i := 6) (v := ?_) (a' := ?_) (l' := #[true, true, true, true, true, true, true, false, false, false]) (d := some 110) rfl (by kernel_rfl) (by kernel_rfl) (by kernel_rfl) (by kernel_rfl) (fun _ _ _ h => h) HF.out rfl ?_ rfl rfl ?_ ?_
            rotate_left
            · intro w' hF; clear hF; go_simp; try rfl
            rotate_left
            · simp only [Act.put]; exact rfl
            refine Calm.one (i := 7) (l' := #[true, true, true, true, true, true, true, true, false, false]) (by kernel_rfl) rfl rfl rfl fun K hK => ?_
            go_simp
            have al := below_alloc u9 (.cells #[.bool false, .slice none 0 0] 30)
            have HF' := hide (And.intro (HF.out.1.trans ((al).mono HF.out.1.size)) (And.intro (HF.out.2.1.step (al)) (And.intro (HF.out.2.2.1.below (al)) (And.intro (HF.out.2.2.2.1.step (al)) (And.intro (HF.out.2.2.2.2.1.below (al)) (And.intro (HF.out.2.2.2.2.2.1.step (al)) (HF.out.2.2.2.2.2.2.below (al))))))))
            have BXm := hide (Box2.new u9 30 (.bool false) (.slice none 0 0))
            replace TO := hide (TO.out.below (al))
            have LT1m := hide (HF.out.2.1.lt)
            have LT3m := hide (HF.out.2.2.2.1.lt)
            have LT5m := hide (HF.out.2.2.2.2.2.1.lt)
            have GEm := hide (HF.out.1.size)
            refine hK _ _ (fun _ => HF'.out) ?_
            clear hK K HF al
            have HF := hide HF'.out
            clear HF'
            generalize u9.alloc (.cells #[.bool false, .slice none 0 0] 30) = wzm at *
            generalize u9.heap.size = gm at *
            refine Calm.one (i := 8) (l' := #[true, true, true, true, true, true, true, true, true, false]) (by kernel_rfl) rfl rfl rfl fun K hK => ?_
            have LTS := hide (And.intro (LT1m.out) (And.intro (LT3m.out) (And.intro (LT5m.out) (GEm.out))))
            have hc0 := BXm.out.cell0
            have hc1 := BXm.out.cell1
            have hf0 := BXm.out.free 0
            have hf1 := BXm.out.free 1
            go_simp
            have HF' := hide (And.intro (below_put HF.out.1 (show w.heap.size ≤ gm by have hx := LTS.out; omega) (.bool so) (.slice mo lo ko)) (And.intro (HF.out.2.1.other (C := gm) (by have hx := LTS.out; omega) (.bool so) (.slice mo lo ko)) (And.intro (HF.out.2.2.1.keep (BXm.out.keeps (by simp) (by simp) (.bool so) (.slice mo lo ko))) (And.intro (HF.out.2.2.2.1.other (C := gm) (by have hx := LTS.out; omega) (.bool so) (.slice mo lo ko)) (And.intro (HF.out.2.2.2.2.1.keep (BXm.out.keeps (by simp) (by simp) (.bool so) (.slice mo lo ko))) (And.intro (HF.out.2.2.2.2.2.1.other (C := gm) (by have hx := LTS.out; omega) (.bool so) (.slice mo lo ko)) (HF.out.2.2.2.2.2.2.keep (BXm.out.keeps (by simp) (by simp) (.bool so) (.slice mo lo ko)))))))))
            replace TO := hide (TO.out.keep (BXm.out.keeps (by simp) (by simp) (.bool so) (.slice mo lo ko)))
            replace BXm := hide (BXm.out.put (.bool so) (.slice mo lo ko))
            refine hK _ _ (fun _ => HF'.out) ?_
            clear hK K HF hc0 hf0 hc1 hf1
            have HF := hide HF'.out
            clear HF'
            generalize ((wzm.setCell ⟨gm, 0, none⟩ (.bool so)).setCell ⟨gm, 1, none⟩ (.slice mo lo ko)) = ws1 at *
            refine Calm.take (i := 9) (v := ?_) (a' := ?_) (l' := #[true, true, true, true, true, true, true, true, true, true]) (d := some 21) rfl (by kernel_rfl) (by kernel_rfl) (by kernel_rfl) (by kernel_rfl) (fun _ _ _ h => h) HF.out rfl ?_ rfl rfl ?_ ?_
            rotate_left
            · intro w' hF; clear hF; go_simp; try rfl
            rotate_left
            · simp only [Act.put]; exact rfl
            refine Calm.done (by kernel_rfl) ?_
            go_wp2
            go_meet
            case rel => exact ⟨gm, so, mo, lo, ko, rfl, HF.out.1, HF.out.2.2.2.2.2.1, HF.out.2.2.2.2.2.2, BXm.out, TO.out⟩
          · go_simp
            have al := below_alloc u8 (.cells #[.bool false, .slice none 0 0] 30)
            have HF' := hide (And.intro (HF.out.1.trans ((al).mono HF.out.1.size)) (And.intro (HF.out.2.1.step (al)) (And.intro (HF.out.2.2.1.below (al)) (And.intro (HF.out.2.2.2.1.step (al)) (And.intro (HF.out.2.2.2.2.1.below (al)) (And.intro (HF.out.2.2.2.2.2.1.step (al)) (HF.out.2.2.2.2.2.2.below (al))))))))
            have BXm := hide (Box2.new u8 30 (.bool false) (.slice none 0 0))
            replace TA := hide (TA.out.below (al))
            have LT1m := hide (HF.out.2.1.lt)
            have LT3m := hide (HF.out.2.2.2.1.lt)
            have LT5m := hide (HF.out.2.2.2.2.2.1.lt)
            have GEm := hide (HF.out.1.size)
            refine hK _ _ (fun _ => HF'.out) ?_
            clear hK K HF al
            have HF := hide HF'.out
            clear HF'
            generalize u8.alloc (.cells #[.bool false, .slice none 0 0] 30) = wzm at *
            generalize u8.heap.size = gm at *
            refine Calm.one (i := 3) (l' := #[true, true, true, true, false, false, false, true, false, false]) (by kernel_rfl) rfl rfl rfl fun K hK => ?_
            go_simp
            refine (rover_any _ _ (Y.natAbs : Int) (Int.gcd X Y : Int) _ TA.out HF.out.2.2.2.2.1 (SzI.dl7 SY.out.abs (by decide)) (SzI.dl7 SD.out (by decide)) DNZ.out).mono ?_
            rintro e u9 ⟨v', z, bb, rfl, n, hor, hb⟩
            obtain ⟨rfl, rfl⟩ : z = (Y.natAbs : Int) / (Int.gcd X Y : Int) ∧ bb = true := by rcases hor with ⟨h1, _⟩ | ⟨_, h2, h3⟩; exact absurd DDV.out h1; exact ⟨h2, h3⟩
            obtain ⟨so, mo, lo, ko, rfl, n⟩ := n.cells
            clear TA
            replace BXm := hide (BXm.out.step hb)
            have HF' := hide (And.intro (HF.out.1.trans ((hb).mono HF.out.1.size)) (And.intro (HF.out.2.1.step (hb)) (And.intro (HF.out.2.2.1.below (hb)) (And.intro (HF.out.2.2.2.1.step (hb)) (And.intro (HF.out.2.2.2.2.1.below (hb)) (And.intro (HF.out.2.2.2.2.2.1.step (hb)) (HF.out.2.2.2.2.2.2.below (hb))))))))
            have TO := hide (n)
            refine hK _ _ (fun _ => HF'.out) ?_
            clear hK K HF hb n hor
            have HF := hide HF'.out
            clear HF'
            refine Calm.take (i := 4) (v := ?_) (a' := ?_) (l' := #[true, true, true, true, true, false, false, true, false, false]) (d := some 104) rfl (by kernel_rfl) (by kernel_rfl) (by kernel_rfl) (by kernel_rfl) (fun _ _ _ h => h) HF.out rfl ?_ rfl rfl ?_ ?_
            rotate_left
            · intro w' hF; clear hF; go_simp; try rfl
            rotate_left
            · simp only [Act.put]; exact rfl
            refine Calm.take (i := 5) (v := ?_) (a' := ?_) (l' := #[true, true, true, true, true, true, false, true, false, false]) (d := some 109) rfl (by kernel_rfl) (by kernel_rfl) (by kernel_rfl) (by kernel_rfl) (fun _ _ _ h => h) HF.out rfl ?_ rfl rfl ?_ ?_
            rotate_left
            · intro w' hF; clear hF; go_simp; try rfl
            rotate_left
            · simp only [Act.put]; exact rfl
            refine Calm.take (i := 6) (v := ?_) (a' := ?_) (l' := #[true, true, true, true, true, true, true, true, false, false]) (d := some 110) rfl (by kernel_rfl) (by kernel_rfl) (by kernel_rfl) (by kernel_rfl) (fun _ _ _ h => h) HF.out rfl ?_ rfl rfl ?_ ?_
            rotate_left
            · intro w' hF; clear hF; go_simp; try rfl
            rotate_left
            · simp only [Act.put]; exact rfl
            refine Calm.one (i := 8) (l' := #[true, true, true, true, true, true, true, true, true, false]) (by kernel_rfl) rfl rfl rfl fun K hK => ?_
            have LTS := hide (And.intro (LT1m.out) (And.intro (LT3m.out) (And.intro (LT5m.out) (GEm.out))))
            have hc0 := BXm.out.cell0
            have hc1 := BXm.out.cell1
            have hf0 := BXm.out.free 0
            have hf1 := BXm.out.free 1
            go_simp
            have HF' := hide (And.intro (below_put HF.out.1 (show w.heap.size ≤ gm by have hx := LTS.out; omega) (.bool so) (.slice mo lo ko)) (And.intro (HF.out.2.1.other (C := gm) (by have hx := LTS.out; omega) (.bool so) (.slice mo lo ko)) (And.intro (HF.out.2.2.1.keep (BXm.out.keeps (by simp) (by simp) (.bool so) (.slice mo lo ko))) (And.intro (HF.out.2.2.2.1.other (C := gm) (by have hx := LTS.out; omega) (.bool so) (.slice mo lo ko)) (And.intro (HF.out.2.2.2.2.1.keep (BXm.out.keeps (by simp) (by simp) (.bool so) (.slice mo lo ko))) (And.intro (HF.out.2.2.2.2.2.1.other (C := gm) (by have hx := LTS.out; omega) (.bool so) (.slice mo lo ko)) (HF.out.2.2.2.2.2.2.keep (BXm.out.keeps (by simp) (by simp) (.bool so) (.slice mo lo ko)))))))))
            replace TO := hide (TO.out.keep (BXm.out.keeps (by simp) (by simp) (.bool so) (.slice mo lo ko)))
            replace BXm := hide (BXm.out.put (.bool so) (.slice mo lo ko))
            refine hK _ _ (fun _ => HF'.out) ?_
            clear hK K HF hc0 hf0 hc1 hf1
            have HF := hide HF'.out
            clear HF'
            generalize ((u9.setCell ⟨gm, 0, none⟩ (.bool so)).setCell ⟨gm, 1, none⟩ (.slice mo lo ko)) = ws1 at *
            refine Calm.take (i := 9) (v := ?_) (a' := ?_) (l' := #[true, true, true, true, true, true, true, true, true, true]) (d := some 21) rfl (by kernel_rfl) (by kernel_rfl) (by kernel_rfl) (by kernel_rfl) (fun _ _ _ h => h) HF.out rfl ?_ rfl rfl ?_ ?_
            rotate_left
            · intro w' hF; clear hF; go_simp; try rfl
            rotate_left
            · simp only [Act.put]; exact rfl
            refine Calm.done (by kernel_rfl) ?_
            go_wp2
            go_meet
            case rel => exact ⟨gm, so, mo, lo, ko, rfl, HF.out.1, HF.out.2.2.2.2.2.1, HF.out.2.2.2.2.2.2, BXm.out, TO.out⟩
        · go_simp
          have al := below_alloc t8d (.cells #[.bool false, .slice none 0 0] 30)
          have HF' := hide (And.intro (HF.out.1.trans ((al).mono HF.out.1.size)) (And.intro (HF.out.2.1.step (al)) (And.intro (HF.out.2.2.1.below (al)) (And.intro (HF.out.2.2.2.1.step (al)) (And.intro (HF.out.2.2.2.2.1.below (al)) (And.intro (HF.out.2.2.2.2.2.1.step (al)) (HF.out.2.2.2.2.2.2.below (al))))))))
          have BXm := hide (Box2.new t8d 30 (.bool false) (.slice none 0 0))
          have LT1m := hide (HF.out.2.1.lt)
          have LT3m := hide (HF.out.2.2.2.1.lt)
          have LT5m := hide (HF.out.2.2.2.2.2.1.lt)
          have GEm := hide (HF.out.1.size)
          refine hK _ _ (fun _ => HF'.out) ?_
          clear hK K HF al
          have HF := hide HF'.out
          clear HF'
          generalize t8d.alloc (.cells #[.bool false, .slice none 0 0] 30) = wzm at *
          generalize t8d.heap.size = gm at *
          refine Calm.one (i := 1) (l' := #[true, true, true, false, false, false, false, true, false, false]) (by kernel_rfl) rfl rfl rfl fun K hK => ?_
          go_simp
          refine (rabs_any _ Y _ HF.out.2.2.1).mono ?_
          rintro e u8 ⟨v', rfl, n, hb⟩
          replace BXm := hide (BXm.out.step hb)
          have HF' := hide (And.intro (HF.out.1.trans ((hb).mono HF.out.1.size)) (And.intro (HF.out.2.1.step (hb)) (And.intro (HF.out.2.2.1.below (hb)) (And.intro (HF.out.2.2.2.1.step (hb)) (And.intro (HF.out.2.2.2.2.1.below (hb)) (And.intro (HF.out.2.2.2.2.2.1.step (hb)) (HF.out.2.2.2.2.2.2.below (hb))))))))
          have TA := hide (n)
          refine hK _ _ (fun _ => HF'.out) ?_
          clear hK K HF hb n
          have HF := hide HF'.out
          clear HF'
          refine Calm.one (i := 3) (l' := #[true, true, true, true, false, false, false, true, false, false]) (by kernel_rfl) rfl rfl rfl fun K hK => ?_
          go_simp
          refine (rover_any _ _ (Y.natAbs : Int) (Int.gcd X Y : Int) _ TA.out HF.out.2.2.2.2.1 (SzI.dl7 SY.out.abs (by decide)) (SzI.dl7 SD.out (by decide)) DNZ.out).mono ?_
          rintro e u9 ⟨v', z, bb, rfl, n, hor, hb⟩
          obtain ⟨rfl, rfl⟩ : z = (Y.natAbs : Int) / (Int.gcd X Y : Int) ∧ bb = true := by rcases hor with ⟨h1, _⟩ | ⟨_, h2, h3⟩; exact absurd DDV.out h1; exact ⟨h2, h3⟩
          obtain ⟨so, mo, lo, ko, rfl, n⟩ := n.cells
          clear TA
          replace BXm := hide (BXm.out.step hb)
          have HF' := hide (And.intro (HF.out.1.trans ((hb).mono HF.out.1.size)) (And.intro (HF.out.2.1.step (hb)) (And.intro (HF.out.2.2.1.below (hb)) (And.intro (HF.out.2.2.2.1.step (hb)) (And.intro (HF.out.2.2.2.2.1.below (hb)) (And.intro (HF.out.2.2.2.2.2.1.step (hb)) (HF.out.2.2.2.2.2.2.below (hb))))))))
          have TO := hide (n)
          refine hK _ _ (fun _ => HF'.out) ?_
          clear hK K HF hb n hor
          have HF := hide HF'.out
          clear HF'
          refine Calm.take (i := 4) (v := ?_) (a' := ?_) (l' := #[true, true, true, true, true, false, false, true, false, false]) (d := some 104) rfl (by kernel_rfl) (by kernel_rfl) (by kernel_rfl) (by kernel_rfl) (fun _ _ _ h => h) HF.out rfl ?_ rfl rfl ?_ ?_
          rotate_left
          · intro w' hF; clear hF; go_simp; try rfl
          rotate_left
          · simp only [Act.put]; exact rfl
          refine Calm.take (i := 5) (v := ?_) (a' := ?_) (l' := #[true, true, true, true, true, true, false, true, false, false]) (d := some 109) rfl (by kernel_rfl) (by kernel_rfl) (by kernel_rfl) (by kernel_rfl) (fun _ _ _ h => h) HF.out rfl ?_ rfl rfl ?_ ?_
          rotate_left
          · intro w' hF; clear hF; go_simp; try rfl
          rotate_left
          · simp only [Act.put]; exact rfl
          refine Calm.take (i := 6) (v := ?_) (a' := ?_) (l' := #[true, true, true, true, true, true, true, true, false, false]) (d := some 110) rfl (by kernel_rfl) (by kernel_rfl) (by kernel_rfl) (by kernel_rfl) (fun _ _ _ h => h) HF.out rfl ?_ rfl rfl ?_ ?_
          rotate_left
          · intro w' hF; clear hF; go_simp; try rfl
          rotate_left
          · simp only [Act.put]; exact rfl
          refine Calm.one (i := 8) (l' := #[true, true, true, true, true, true, true, true, true, false]) (by kernel_rfl) rfl rfl rfl fun K hK => ?_
          have LTS := hide (And.intro (LT1m.out) (And.intro (LT3m.out) (And.intro (LT5m.out) (GEm.out))))
          have hc0 := BXm.out.cell0
          have hc1 := BXm.out.cell1
          have hf0 := BXm.out.free 0
          have hf1 := BXm.out.free 1
          go_simp
          have HF' := hide (And.intro (below_put HF.out.1 (show w.heap.size ≤ gm by have hx := LTS.out; omega) (.bool so) (.slice mo lo ko)) (And.intro (HF.out.2.1.other (C := gm) (by have hx := LTS.out; omega) (.bool so) (.slice mo lo ko)) (And.intro (HF.out.2.2.1.keep (BXm.out.keeps (by simp) (by simp) (.bool so) (.slice mo lo ko))) (And.intro (HF.out.2.2.2.1.other (C := gm) (by have hx := LTS.out; omega) (.bool so) (.slice mo lo ko)) (And.intro (HF.out.2.2.2.2.1.keep (BXm.out.keeps (by simp) (by simp) (.bool so) (.slice mo lo ko))) (And.intro (HF.out.2.2.2.2.2.1.other (C := gm) (by have hx := LTS.out; omega) (.bool so) (.slice mo lo ko)) (HF.out.2.2.2.2.2.2.keep (BXm.out.keeps (by simp) (by simp) (.bool so) (.slice mo lo ko)))))))))
          replace TO := hide (TO.out.keep (BXm.out.keeps (by simp) (by simp) (.bool so) (.slice mo lo ko)))
          replace BXm := hide (BXm.out.put (.bool so) (.slice mo lo ko))
          refine hK _ _ (fun _ => HF'.out) ?_
          clear hK K HF hc0 hf0 hc1 hf1
          have HF := hide HF'.out
          clear HF'
          generalize ((u9.setCell ⟨gm, 0, none⟩ (.bool so)).setCell ⟨gm, 1, none⟩ (.slice mo lo ko)) = ws1 at *
          refine Calm.take (i := 9) (v := ?_) (a' := ?_) (l' := #[true, true, true, true, true, true, true, true, true, true]) (d := some 21) rfl (by kernel_rfl) (by kernel_rfl) (by kernel_rfl) (by kernel_rfl) (fun _ _ _ h => h) HF.out rfl ?_ rfl rfl ?_ ?_
          rotate_left
          · intro w' hF; clear hF; go_simp; try rfl
          rotate_left
          · simp only [Act.put]; exact rfl
          refine Calm.done (by kernel_rfl) ?_
          go_wp2
          go_meet
          case rel => exact ⟨gm, so, mo, lo, ko, rfl, HF.out.1, HF.out.2.2.2.2.2.1, HF.out.2.2.2.2.2.2, BXm.out, TO.out⟩
      case rest =>
        obtain ⟨gm, so, mo, lo, ko, rfl, hHB, hBs, hTs, hPm, hTm⟩ := hcut
        clear HB Pp Ip Pq Iq Bw Tw Bs Ts Bt Tt
        have HB := hide hHB
        have Bs := hide hBs
        have Ts := hide hTs
        have Bm := hide hPm
        have Tm := hide hTm
        clear hHB hBs hTs hPm hTm
        generalize hwc : wc = t9 at *
        clear hwc
        have p0 := Bs.out.cell0
        have p1 := Bs.out.cell1
        go_wp2_with fail
        refine (rsign_any _ u _ Ts.out).mono ?_
        rintro e t10 ⟨rfl, hb⟩
        clear p0 p1
        replace HB := hide (HB.out.trans ((hb).mono HB.out.size))
        replace Bs := hide (Bs.out.step (hb))
        replace Ts := hide (Ts.out.below (hb))
        replace Bm := hide (Bm.out.step (hb))
        replace Tm := hide (Tm.out.below (hb))
        clear hb
        have CM : Hid (cmpZ u ((Y.natAbs : Int) / (Int.gcd X Y : Int)) = -1) := hide (by unfold cmpZ; rw [if_pos HUV.out.2])
        rcases sgnI_nonneg HUV.out.1 with hs | hs
        · rw [hs]
          clear hs
          have p0 := Bs.out.cell0
          have p1 := Bs.out.cell1
          have d0 := Bm.out.cell0
          have d1 := Bm.out.cell1
          go_wp2_with fail
          refine (rcmp_any _ _ _ _ _ Ts.out Tm.out).mono ?_
          rintro e t11 ⟨rfl, hb⟩
          rw [CM.out]
          clear p0 p1 d0 d1
          replace HB := hide (HB.out.trans ((hb).mono HB.out.size))
          replace Bs := hide (Bs.out.step (hb))
          replace Ts := hide (Ts.out.below (hb))
          replace Bm := hide (Bm.out.step (hb))
          replace Tm := hide (Tm.out.below (hb))
          clear hb
          go_wp2
          go_ret
          exact ⟨rfl, HB.out⟩
        · rw [hs]
          clear hs
          have p0 := Bs.out.cell0
          have p1 := Bs.out.cell1
          have d0 := Bm.out.cell0
          have d1 := Bm.out.cell1
          go_wp2_with fail
          refine (rcmp_any _ _ _ _ _ Ts.out Tm.out).mono ?_
          rintro e t11 ⟨rfl, hb⟩
          rw [CM.out]
          clear p0 p1 d0 d1
          replace HB := hide (HB.out.trans ((hb).mono HB.out.size))
          replace Bs := hide (Bs.out.step (hb))
          replace Ts := hide (Ts.out.below (hb))
          replace Bm := hide (Bm.out.step (hb))
          replace Tm := hide (Tm.out.below (hb))
          clear hb
          go_wp2
          go_ret
          exact ⟨rfl, HB.out⟩
end Go.Proofs.Ytnldhpleicpjfaa
