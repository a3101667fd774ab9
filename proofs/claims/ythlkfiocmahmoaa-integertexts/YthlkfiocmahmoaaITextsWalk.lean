/- swagelaw02.IntegerTexts answers true at all numbers, and turns nothing that was there. -/
import Derived.Test.YthlkfiocmahmoaaR2Text
import Derived.Test.YthlkfiocmahmoaaR2Is
import Derived.Deep.Cut
namespace Go.Proofs.Ythlkfiocmahmoaa
open Go.RowKit

theorem itxt_small {z : Int} (h : SzI 60 z) : (itxt z).size ≤ 1930 := by
  have h1 := itxt_size z
  have h2 : (dec z.natAbs).length ≤ 32 * 60 + 1 := dec_bound h
  rw [dec_length] at h2
  omega

theorem dlen60 {z : Int} (h : SzI 60 z) : (D.lim z.natAbs).length ≤ 1000000 := by
  refine Nat.le_trans (D.lim_length_le (k := 2 * 60) ?_) (by decide)
  have : BB ^ 60 = D.BB ^ (2 * 60) := bb_pow 60
  unfold SzI at h
  rw [← this]; exact h

set_option maxRecDepth 100000 in
set_option maxHeartbeats 8000000 in
theorem itexts_walk (b0 : Bool) (a0 : Option Addr) (c0 : Nat) (xs : List Nat) (w : World) (h0 : Nums w (.slice a0 xs.length c0) xs) :
    Calls Try.prog 6 #[.agg #[.bool b0, .slice a0 xs.length c0]] w fun e w' => e = .returned (.bool true) ∧ Below w.heap.size w w' := by
  have hm0 := nums_len h0
  have HM := hide hm0
  unfold maxLen at hm0
  have HN0 := hide h0
  clear h0
  have HE := hide (nboxes1 24 w (.bool b0) (.slice a0 xs.length c0))
  have HB := hide (HE.out.2)
  have P0 := hide (HE.out.1)
  replace HN0 := hide (HN0.out.below HE.out.2)
  clear HE
  go_enter Try.func6, Try.ntmps6
  go_wp2_with fail
  refine (live_any _).mono ?_
  rintro e w1 ⟨rfl, hb⟩
  replace HB := hide (HB.out.trans ((hb).mono HB.out.size))
  replace P0 := hide (P0.out.step (hb))
  replace HN0 := hide (HN0.out.below (hb))
  have p0 := P0.out.cell0
  have p1 := P0.out.cell1
  clear hb
  go_wp2_with fail
  refine (long_any _ [xs.length] _ (lens_lit _ _ (by simp [maxLen]) (by
    intro i hi
    match i, hi with
    | 0, _ => exact ⟨a0, c0, by simp, HM.out⟩))).mono ?_
  rintro e w2 ⟨he, hb⟩
  clear p0 p1
  have hb' := (below_alloc w1 _).trans (hb.mono (by simp))
  replace HB := hide (HB.out.trans ((hb').mono HB.out.size))
  replace P0 := hide (P0.out.step (hb'))
  replace HN0 := hide (HN0.out.below (hb'))
  clear hb hb'
  cases hq : [xs.length].any (fun m => decide (60 < m)) with
  | true =>
    rw [hq] at he
    subst he
    clear hq
    go_wp2
    go_ret
    exact ⟨rfl, HB.out⟩
  | false =>
  rw [hq] at he
  subst he
  have g0 : xs.length ≤ 60 := by
    simp at hq; omega
  clear hq
  have SX : Hid (SzI 60 (sg b0 (val xs))) := SzI.of HN0.out.ok g0
  have p0 := P0.out.cell0
  have p1 := P0.out.cell1
  go_wp2_with fail
  refine (of_any b0 a0 c0 xs _ HN0.out (by omega)).mono ?_
  rintro e q0 ⟨v, u, rfl, hI, hR, hb⟩
  generalize sg b0 (val xs) = z at *
  obtain ⟨sx, nx, mx, kx, rfl, hn, he, h0⟩ := hI
  obtain ⟨sp, np, mp, kp, rfl, hn', he', h0'⟩ := hR
  clear p0 p1
  replace HB := hide (HB.out.trans ((hb).mono HB.out.size))
  replace P0 := hide (P0.out.step (hb))
  replace HN0 := hide (HN0.out.below (hb))
  have hI : IntAt q0 (.agg #[.bool sx, .slice mx (lim nx).length kx]) z := ⟨sx, nx, mx, kx, rfl, hn, he, h0⟩
  have hR : RInt q0 (.agg #[.bool sp, .slice mp (D.lim np).length kp]) z := ⟨sp, np, mp, kp, rfl, hn', he', h0'⟩
  replace HB := hide (HB.out.trans ((below_alloc q0 (.cells #[.bool sx, .slice mx (lim nx).length kx] 28)).mono HB.out.size))
  replace P0 := hide (P0.out.step (below_alloc q0 (.cells #[.bool sx, .slice mx (lim nx).length kx] 28)))
  replace HN0 := hide (HN0.out.below (below_alloc q0 (.cells #[.bool sx, .slice mx (lim nx).length kx] 28)))
  have VX := hide (hI.var)
  have hR2 := hR.below (below_alloc q0 (.cells #[.bool sx, .slice mx (lim nx).length kx] 28))
  replace HB := hide (HB.out.trans ((below_alloc (q0.alloc (.cells #[.bool sx, .slice mx (lim nx).length kx] 28)) (.cells #[.bool sp, .slice mp (D.lim np).length kp] 30)).mono HB.out.size))
  replace P0 := hide (P0.out.step (below_alloc (q0.alloc (.cells #[.bool sx, .slice mx (lim nx).length kx] 28)) (.cells #[.bool sp, .slice mp (D.lim np).length kp] 30)))
  replace HN0 := hide (HN0.out.below (below_alloc (q0.alloc (.cells #[.bool sx, .slice mx (lim nx).length kx] 28)) (.cells #[.bool sp, .slice mp (D.lim np).length kp] 30)))
  replace VX := hide (VX.out.step (below_alloc (q0.alloc (.cells #[.bool sx, .slice mx (lim nx).length kx] 28)) (.cells #[.bool sp, .slice mp (D.lim np).length kp] 30)))
  have VP := hide (hR2.var)
  rw [World.size_alloc] at VP
  clear hb hn he h0 hn' he' h0' hI hR hR2
  clear P0
  clear HN0
  have HTT := hide (ird_told z (Nat.le_trans (itxt_small SX.out) (by decide)))
  have hsz := itxt_small SX.out
  go_wp2_with fail
  generalize (q0.alloc (.cells #[.bool sx, .slice mx (lim nx).length kx] 28)).alloc (.cells #[.bool sp, .slice mp (D.lim np).length kp] 30) = w7 at *
  generalize q0.heap.size = gx at *
  generalize (lim nx).length = lx at *
  generalize (D.lim np).length = lp at *
  have x0 := VX.out.box.cell0
  have x1 := VX.out.box.cell1
  go_wp2_with fail
  refine (itext_any _ z _ VX.out.int (SzI.len SX.out (by decide))).mono ?_
  rintro e u1 ⟨rfl, hb⟩
  replace HB := hide (HB.out.trans ((hb).mono HB.out.size))
  replace VX := hide (VX.out.step (hb))
  replace VP := hide (VP.out.step (hb))
  clear VX
  clear hb x0 x1
  generalize hS : itxt z = S at *
  go_wp2_with fail
  refine (iread_any S _ (by omega)).mono ?_
  rintro e u2 ⟨v, z', a', b', rfl, nI, hrd, hb⟩
  obtain ⟨rfl, rfl, rfl⟩ := hrd.same HTT.out
  obtain ⟨sy, my, ny, cy, rfl, nI⟩ := nI.cells
  replace HB := hide (HB.out.trans ((hb).mono HB.out.size))
  replace VP := hide (VP.out.step (hb))
  have TY := hide (nI)
  clear hb nI hrd
  go_upto_region 8 with fail
  replace HB := hide (HB.out.trans ((below_alloc u2 (.cells #[.bool sy, .slice my ny cy] 28)).mono HB.out.size))
  replace VP := hide (VP.out.step (below_alloc u2 (.cells #[.bool sy, .slice my ny cy] 28)))
  replace TY := hide (TY.out.below (below_alloc u2 (.cells #[.bool sy, .slice my ny cy] 28)))
  have VY := hide (Box.new u2 (.bool sy) (.slice my ny cy))
  replace HB := hide (HB.out.trans ((below_alloc (u2.alloc (.cells #[.bool sy, .slice my ny cy] 28)) (.cells #[.int .i64 0, .int .i64 0] 63)).mono HB.out.size))
  replace VP := hide (VP.out.step (below_alloc (u2.alloc (.cells #[.bool sy, .slice my ny cy] 28)) (.cells #[.int .i64 0, .int .i64 0] 63)))
  replace TY := hide (TY.out.below (below_alloc (u2.alloc (.cells #[.bool sy, .slice my ny cy] 28)) (.cells #[.int .i64 0, .int .i64 0] 63)))
  replace VY := hide (VY.out.step (below_alloc (u2.alloc (.cells #[.bool sy, .slice my ny cy] 28)) (.cells #[.int .i64 0, .int .i64 0] 63)))
  have VS := hide (Box2.new (u2.alloc (.cells #[.bool sy, .slice my ny cy] 28)) 63 (.int .i64 0) (.int .i64 0))
  rw [World.size_alloc] at VS
  generalize (u2.alloc (.cells #[.bool sy, .slice my ny cy] 28)).alloc (.cells #[.int .i64 0, .int .i64 0] 63) = w9 at *
  generalize u2.heap.size = gy at *
  have y0 := VP.out.box.cell0
  have y1 := VP.out.box.cell1
  go_wp2_with fail
  clear y0 y1
  refine (rtext2_any _ z' _ VP.out.int (dlen60 SX.out)).mono ?_
  rintro e u3 ⟨rfl, hb⟩
  replace HB := hide (HB.out.trans ((hb).mono HB.out.size))
  replace VP := hide (VP.out.step (hb))
  replace TY := hide (TY.out.below (hb))
  replace VY := hide (VY.out.step (hb))
  replace VS := hide (VS.out.step (hb))
  clear hb
  rw [hS]
  have y0 := VP.out.box.cell0
  have y1 := VP.out.box.cell1
  have s0 := VS.out.cell0
  have s1 := VS.out.cell1
  have t0 := VY.out.cell0
  have t1 := VY.out.cell1
  go_wp2_with fail
  refine (is_yes _ _ z' _ TY.out VP.out.int (SzI.len SX.out (by decide)) (Nat.le_trans (SzI.dlen SX.out (by decide)) (by decide))).mono ?_
  rintro e u4 ⟨rfl, hb⟩
  clear VY
  clear VS
  clear TY
  clear VP
  replace HB := hide (HB.out.trans ((hb).mono HB.out.size))
  clear hb y0 y1 s0 s1 t0 t1
  go_wp2
  go_ret
  exact ⟨rfl, HB.out⟩
end Go.Proofs.Ythlkfiocmahmoaa
