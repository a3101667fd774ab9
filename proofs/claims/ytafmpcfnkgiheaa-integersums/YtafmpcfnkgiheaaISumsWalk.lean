/- swagelaw02.IntegerSums answers true at all numbers, and turns nothing that was there. -/
import Derived.Test.YtafmpcfnkgiheaaR2Law
namespace Go.Proofs.Ytafmpcfnkgiheaa
open Go.RowKit

set_option maxRecDepth 100000 in
set_option maxHeartbeats 20000000 in
theorem isums_walk (b0 b1 : Bool) (a0 a1 : Option Addr) (c0 c1 : Nat) (xs ys : List Nat) (c : Int) (w : World) (h0 : Nums w (.slice a0 xs.length c0) xs) (h1 : Nums w (.slice a1 ys.length c1) ys) (hlo : -9223372036854775808 ≤ c) (hhi : c ≤ 9223372036854775807) :
    Calls Try.prog 5 #[.agg #[.bool b0, .slice a0 xs.length c0], .agg #[.bool b1, .slice a1 ys.length c1], .int .i64 c] w fun e w' => e = .returned (.bool true) ∧ Below w.heap.size w w' := by
  have hm0 := nums_len h0
  have hm1 := nums_len h1
  have HM := hide (And.intro hm0 hm1)
  unfold maxLen at hm0 hm1
  have HN0 := hide h0
  have HN1 := hide h1
  have HL := hide hlo
  have HH := hide hhi
  have SC := hide (SzI.word hlo hhi)
  clear h0 h1 hlo hhi
  have HE := hide (nboxes2 39 w (.bool b0) (.slice a0 xs.length c0) (.bool b1) (.slice a1 ys.length c1))
  have HB := hide (HE.out.2.2)
  have P0 := hide (HE.out.1)
  have P1 := hide (HE.out.2.1)
  replace HN0 := hide (HN0.out.below HE.out.2.2)
  replace HN1 := hide (HN1.out.below HE.out.2.2)
  clear HE
  go_enter Try.func5, Try.ntmps5
  go_wp2_with fail
  refine (live_any _).mono ?_
  rintro e w1 ⟨rfl, hb⟩
  replace HB := hide (HB.out.trans ((hb).mono HB.out.size))
  replace P0 := hide (P0.out.step (hb))
  replace P1 := hide (P1.out.step (hb))
  replace HN0 := hide (HN0.out.below (hb))
  replace HN1 := hide (HN1.out.below (hb))
  have p00 := P0.out.cell0
  have p01 := P0.out.cell1
  have p10 := P1.out.cell0
  have p11 := P1.out.cell1
  clear hb
  go_wp2_with fail
  refine (long_any _ [xs.length, ys.length] _ (lens_lit _ _ (by simp [maxLen]) (by
    intro i hi
    match i, hi with
    | 0, _ => exact ⟨a0, c0, by simp, HM.out.1⟩
    | 1, _ => exact ⟨a1, c1, by simp, HM.out.2⟩))).mono ?_
  rintro e w2 ⟨he, hb⟩
  clear p00 p01 p10 p11
  have hb' := (below_alloc w1 _).trans (hb.mono (by simp))
  replace HB := hide (HB.out.trans ((hb').mono HB.out.size))
  replace P0 := hide (P0.out.step (hb'))
  replace P1 := hide (P1.out.step (hb'))
  replace HN0 := hide (HN0.out.below (hb'))
  replace HN1 := hide (HN1.out.below (hb'))
  clear hb hb'
  cases hq : [xs.length, ys.length].any (fun m => decide (60 < m)) with
  | true =>
    rw [hq] at he
    subst he
    clear hq
    go_wp2
    go_ret
    exact ⟨rfl, HB.out⟩
  | false =>
  rw [hq] at he
  subst he
  obtain ⟨g0, g1⟩ : xs.length ≤ 60 ∧ ys.length ≤ 60 := by
    simp at hq; omega
  clear hq
  have SX : Hid (SzI 60 (sg b0 (val xs))) := SzI.of HN0.out.ok g0
  have SY : Hid (SzI 60 (sg b1 (val ys))) := SzI.of HN1.out.ok g1
  have G := hide (And.intro g0 g1)
  clear g0 g1
  have p00 := P0.out.cell0
  have p01 := P0.out.cell1
  have p10 := P1.out.cell0
  have p11 := P1.out.cell1
  go_wp2_with fail
  refine (of_any b0 a0 c0 xs _ HN0.out (by have := G.out; omega)).mono ?_
  rintro e q0 ⟨v, u, rfl, hI, hR, hb⟩
  obtain ⟨sx, nx, mx, kx, rfl, hn, he, h0⟩ := hI
  obtain ⟨sp, np, mp, kp, rfl, hn', he', h0'⟩ := hR
  clear p00 p01 p10 p11
  replace HB := hide (HB.out.trans ((hb).mono HB.out.size))
  replace P0 := hide (P0.out.step (hb))
  replace P1 := hide (P1.out.step (hb))
  replace HN0 := hide (HN0.out.below (hb))
  replace HN1 := hide (HN1.out.below (hb))
  have hI : IntAt q0 (.agg #[.bool sx, .slice mx (lim nx).length kx]) (sg b0 (val xs)) := ⟨sx, nx, mx, kx, rfl, hn, he, h0⟩
  have hR : RInt q0 (.agg #[.bool sp, .slice mp (D.lim np).length kp]) (sg b0 (val xs)) := ⟨sp, np, mp, kp, rfl, hn', he', h0'⟩
  replace HB := hide (HB.out.trans ((below_alloc q0 (.cells #[.bool sx, .slice mx (lim nx).length kx] 41)).mono HB.out.size))
  replace P0 := hide (P0.out.step (below_alloc q0 (.cells #[.bool sx, .slice mx (lim nx).length kx] 41)))
  replace P1 := hide (P1.out.step (below_alloc q0 (.cells #[.bool sx, .slice mx (lim nx).length kx] 41)))
  replace HN0 := hide (HN0.out.below (below_alloc q0 (.cells #[.bool sx, .slice mx (lim nx).length kx] 41)))
  replace HN1 := hide (HN1.out.below (below_alloc q0 (.cells #[.bool sx, .slice mx (lim nx).length kx] 41)))
  have Vx := hide (hI.var)
  have hR2 := hR.below (below_alloc q0 (.cells #[.bool sx, .slice mx (lim nx).length kx] 41))
  replace HB := hide (HB.out.trans ((below_alloc (q0.alloc (.cells #[.bool sx, .slice mx (lim nx).length kx] 41)) (.cells #[.bool sp, .slice mp (D.lim np).length kp] 43)).mono HB.out.size))
  replace P0 := hide (P0.out.step (below_alloc (q0.alloc (.cells #[.bool sx, .slice mx (lim nx).length kx] 41)) (.cells #[.bool sp, .slice mp (D.lim np).length kp] 43)))
  replace P1 := hide (P1.out.step (below_alloc (q0.alloc (.cells #[.bool sx, .slice mx (lim nx).length kx] 41)) (.cells #[.bool sp, .slice mp (D.lim np).length kp] 43)))
  replace HN0 := hide (HN0.out.below (below_alloc (q0.alloc (.cells #[.bool sx, .slice mx (lim nx).length kx] 41)) (.cells #[.bool sp, .slice mp (D.lim np).length kp] 43)))
  replace HN1 := hide (HN1.out.below (below_alloc (q0.alloc (.cells #[.bool sx, .slice mx (lim nx).length kx] 41)) (.cells #[.bool sp, .slice mp (D.lim np).length kp] 43)))
  replace Vx := hide (Vx.out.step (below_alloc (q0.alloc (.cells #[.bool sx, .slice mx (lim nx).length kx] 41)) (.cells #[.bool sp, .slice mp (D.lim np).length kp] 43)))
  have Vp := hide (hR2.var)
  rw [World.size_alloc] at Vp
  clear hb hn he h0 hn' he' h0' hI hR hR2
  have p00 := P0.out.cell0
  have p01 := P0.out.cell1
  have p10 := P1.out.cell0
  have p11 := P1.out.cell1
  go_wp2_with fail
  refine (of_any b1 a1 c1 ys _ HN1.out (by have := G.out; omega)).mono ?_
  rintro e q1 ⟨v, u, rfl, hI, hR, hb⟩
  obtain ⟨sy, ny, my, ky, rfl, hn, he, h0⟩ := hI
  obtain ⟨sq, nq, mq, kq, rfl, hn', he', h0'⟩ := hR
  clear p00 p01 p10 p11
  replace HB := hide (HB.out.trans ((hb).mono HB.out.size))
  replace P0 := hide (P0.out.step (hb))
  replace P1 := hide (P1.out.step (hb))
  replace HN0 := hide (HN0.out.below (hb))
  replace HN1 := hide (HN1.out.below (hb))
  replace Vx := hide (Vx.out.step (hb))
  replace Vp := hide (Vp.out.step (hb))
  have hI : IntAt q1 (.agg #[.bool sy, .slice my (lim ny).length ky]) (sg b1 (val ys)) := ⟨sy, ny, my, ky, rfl, hn, he, h0⟩
  have hR : RInt q1 (.agg #[.bool sq, .slice mq (D.lim nq).length kq]) (sg b1 (val ys)) := ⟨sq, nq, mq, kq, rfl, hn', he', h0'⟩
  replace HB := hide (HB.out.trans ((below_alloc q1 (.cells #[.bool sy, .slice my (lim ny).length ky] 41)).mono HB.out.size))
  replace P0 := hide (P0.out.step (below_alloc q1 (.cells #[.bool sy, .slice my (lim ny).length ky] 41)))
  replace P1 := hide (P1.out.step (below_alloc q1 (.cells #[.bool sy, .slice my (lim ny).length ky] 41)))
  replace HN0 := hide (HN0.out.below (below_alloc q1 (.cells #[.bool sy, .slice my (lim ny).length ky] 41)))
  replace HN1 := hide (HN1.out.below (below_alloc q1 (.cells #[.bool sy, .slice my (lim ny).length ky] 41)))
  replace Vx := hide (Vx.out.step (below_alloc q1 (.cells #[.bool sy, .slice my (lim ny).length ky] 41)))
  replace Vp := hide (Vp.out.step (below_alloc q1 (.cells #[.bool sy, .slice my (lim ny).length ky] 41)))
  have Vy := hide (hI.var)
  have hR2 := hR.below (below_alloc q1 (.cells #[.bool sy, .slice my (lim ny).length ky] 41))
  replace HB := hide (HB.out.trans ((below_alloc (q1.alloc (.cells #[.bool sy, .slice my (lim ny).length ky] 41)) (.cells #[.bool sq, .slice mq (D.lim nq).length kq] 43)).mono HB.out.size))
  replace P0 := hide (P0.out.step (below_alloc (q1.alloc (.cells #[.bool sy, .slice my (lim ny).length ky] 41)) (.cells #[.bool sq, .slice mq (D.lim nq).length kq] 43)))
  replace P1 := hide (P1.out.step (below_alloc (q1.alloc (.cells #[.bool sy, .slice my (lim ny).length ky] 41)) (.cells #[.bool sq, .slice mq (D.lim nq).length kq] 43)))
  replace HN0 := hide (HN0.out.below (below_alloc (q1.alloc (.cells #[.bool sy, .slice my (lim ny).length ky] 41)) (.cells #[.bool sq, .slice mq (D.lim nq).length kq] 43)))
  replace HN1 := hide (HN1.out.below (below_alloc (q1.alloc (.cells #[.bool sy, .slice my (lim ny).length ky] 41)) (.cells #[.bool sq, .slice mq (D.lim nq).length kq] 43)))
  replace Vx := hide (Vx.out.step (below_alloc (q1.alloc (.cells #[.bool sy, .slice my (lim ny).length ky] 41)) (.cells #[.bool sq, .slice mq (D.lim nq).length kq] 43)))
  replace Vp := hide (Vp.out.step (below_alloc (q1.alloc (.cells #[.bool sy, .slice my (lim ny).length ky] 41)) (.cells #[.bool sq, .slice mq (D.lim nq).length kq] 43)))
  replace Vy := hide (Vy.out.step (below_alloc (q1.alloc (.cells #[.bool sy, .slice my (lim ny).length ky] 41)) (.cells #[.bool sq, .slice mq (D.lim nq).length kq] 43)))
  have Vq := hide (hR2.var)
  rw [World.size_alloc] at Vq
  clear hb hn he h0 hn' he' h0' hI hR hR2
  clear P0
  clear P1
  clear HN0
  clear HN1
  clear G
  go_wp2_with fail
  generalize q0.heap.size = gx at *
  generalize q1.heap.size = gy at *
  generalize (q1.alloc (.cells #[.bool sy, .slice my (lim ny).length ky] 41)).alloc (.cells #[.bool sq, .slice mq (D.lim nq).length kq] 43) = w7 at *
  generalize (lim nx).length = lx at *
  generalize (lim ny).length = ly at *
  generalize (D.lim np).length = lp at *
  generalize (D.lim nq).length = lq at *
  refine wp_calm (fun w' => Below w.heap.size w w' ∧ Var w' gx sx mx lx kx (sg b0 (val xs)) ∧ RVar w' (gx + 1) sp mp lp kp (sg b0 (val xs)) ∧ Var w' gy sy my ly ky (sg b1 (val ys)) ∧ RVar w' (gy + 1) sq mq lq kq (sg b1 (val ys))) (fun _ => true) 69 #[false, false, false, false, false, false, false, false, false, false, false, false, false, false, false, false, false, false, false, false, false, false, false, false, false, false, false, false, false, false, false, false, false, false, false, false, false, false, false, false, false, false, false, false, false, false, false, false, false, false, false, false, false, false, false, false, false, false, false, false, false, false, false, false, false, false, false, false, false] (by kernel_rfl) rfl rfl ?_
  have HF := hide (And.intro (HB.out.drew) (And.intro (Vx.out.drew) (And.intro (Vp.out.drew) (And.intro (Vy.out.drew) (Vq.out.drew)))))
  generalize w7.drew = w7d at HF ⊢
  refine Calm.take (i := 0) (v := ?_) (a' := ?_) (l' := #[true, false, false, false, false, false, false, false, false, false, false, false, false, false, false, false, false, false, false, false, false, false, false, false, false, false, false, false, false, false, false, false, false, false, false, false, false, false, false, false, false, false, false, false, false, false, false, false, false, false, false, false, false, false, false, false, false, false, false, false, false, false, false, false, false, false, false, false, false]) (d := some 27) rfl (by kernel_rfl) (by kernel_rfl) (by kernel_rfl) (by kernel_rfl) (fun _ _ _ h => h) HF.out rfl ?_ rfl rfl ?_ ?_
  rotate_left
  · intro w' hF; have f10 := hF.2.1.box.cell0; have f11 := hF.2.1.box.cell1; have f20 := hF.2.2.1.box.cell0; have f21 := hF.2.2.1.box.cell1; have f30 := hF.2.2.2.1.box.cell0; have f31 := hF.2.2.2.1.box.cell1; have f40 := hF.2.2.2.2.box.cell0; have f41 := hF.2.2.2.2.box.cell1; clear hF; go_simp; try rfl
  rotate_left
  · simp only [Act.put]; exact rfl
  refine Calm.take (i := 2) (v := ?_) (a' := ?_) (l' := #[true, false, true, false, false, false, false, false, false, false, false, false, false, false, false, false, false, false, false, false, false, false, false, false, false, false, false, false, false, false, false, false, false, false, false, false, false, false, false, false, false, false, false, false, false, false, false, false, false, false, false, false, false, false, false, false, false, false, false, false, false, false, false, false, false, false, false, false, false]) (d := some 29) rfl (by kernel_rfl) (by kernel_rfl) (by kernel_rfl) (by kernel_rfl) (fun _ _ _ h => h) HF.out rfl ?_ rfl rfl ?_ ?_
  rotate_left
  · intro w' hF; have f10 := hF.2.1.box.cell0; have f11 := hF.2.1.box.cell1; have f20 := hF.2.2.1.box.cell0; have f21 := hF.2.2.1.box.cell1; have f30 := hF.2.2.2.1.box.cell0; have f31 := hF.2.2.2.1.box.cell1; have f40 := hF.2.2.2.2.box.cell0; have f41 := hF.2.2.2.2.box.cell1; clear hF; go_simp; try rfl
  rotate_left
  · simp only [Act.put]; exact rfl
  refine Calm.one (i := 1) (l' := #[true, true, true, false, false, false, false, false, false, false, false, false, false, false, false, false, false, false, false, false, false, false, false, false, false, false, false, false, false, false, false, false, false, false, false, false, false, false, false, false, false, false, false, false, false, false, false, false, false, false, false, false, false, false, false, false, false, false, false, false, false, false, false, false, false, false, false, false, false]) (by kernel_rfl) rfl rfl rfl fun K hK => ?_
  go_simp
  refine (isign_any _ (sg b0 (val xs)) _ HF.out.2.1.int).mono ?_
  rintro e u0 ⟨rfl, hb⟩
  try replace BX := hide (BX.out.step hb)
  have HF' := hide (And.intro (HF.out.1.trans ((hb).mono HF.out.1.size)) (And.intro (HF.out.2.1.step (hb)) (And.intro (HF.out.2.2.1.step (hb)) (And.intro (HF.out.2.2.2.1.step (hb)) (HF.out.2.2.2.2.step (hb))))))
  refine hK _ _ (fun _ => HF'.out) ?_
  clear hK K HF hb
  have HF := hide HF'.out
  clear HF'
  refine Calm.one (i := 3) (l' := #[true, true, true, true, false, false, false, false, false, false, false, false, false, false, false, false, false, false, false, false, false, false, false, false, false, false, false, false, false, false, false, false, false, false, false, false, false, false, false, false, false, false, false, false, false, false, false, false, false, false, false, false, false, false, false, false, false, false, false, false, false, false, false, false, false, false, false, false, false]) (by kernel_rfl) rfl rfl rfl fun K hK => ?_
  go_simp
  refine (rsign_any _ (sg b0 (val xs)) _ HF.out.2.2.1.int).mono ?_
  rintro e u1 ⟨rfl, hb⟩
  try replace BX := hide (BX.out.step hb)
  have HF' := hide (And.intro (HF.out.1.trans ((hb).mono HF.out.1.size)) (And.intro (HF.out.2.1.step (hb)) (And.intro (HF.out.2.2.1.step (hb)) (And.intro (HF.out.2.2.2.1.step (hb)) (HF.out.2.2.2.2.step (hb))))))
  refine hK _ _ (fun _ => HF'.out) ?_
  clear hK K HF hb
  have HF := hide HF'.out
  clear HF'
  refine Calm.take (i := 4) (v := ?_) (a' := ?_) (l' := #[true, true, true, true, true, false, false, false, false, false, false, false, false, false, false, false, false, false, false, false, false, false, false, false, false, false, false, false, false, false, false, false, false, false, false, false, false, false, false, false, false, false, false, false, false, false, false, false, false, false, false, false, false, false, false, false, false, false, false, false, false, false, false, false, false, false, false, false, false]) (d := some 31) rfl (by kernel_rfl) (by kernel_rfl) (by kernel_rfl) (by kernel_rfl) (fun _ _ _ h => h) HF.out rfl ?_ rfl rfl ?_ ?_
  rotate_left
  · intro w' hF; clear hF; go_simp; try rfl
  rotate_left
  · simp only [Act.put]; exact rfl
  refine Calm.take (i := 5) (v := ?_) (a' := ?_) (l' := #[true, true, true, true, true, true, false, false, false, false, false, false, false, false, false, false, false, false, false, false, false, false, false, false, false, false, false, false, false, false, false, false, false, false, false, false, false, false, false, false, false, false, false, false, false, false, false, false, false, false, false, false, false, false, false, false, false, false, false, false, false, false, false, false, false, false, false, false, false]) (d := some 32) rfl (by kernel_rfl) (by kernel_rfl) (by kernel_rfl) (by kernel_rfl) (fun _ _ _ h => h) HF.out rfl ?_ rfl rfl ?_ ?_
  rotate_left
  · intro w' hF; clear hF; go_simp; try rfl
  rotate_left
  · simp only [Act.put]; exact rfl
  refine Calm.take (i := 6) (v := ?_) (a' := ?_) (l' := #[true, true, true, true, true, true, true, false, false, false, false, false, false, false, false, false, false, false, false, false, false, false, false, false, false, false, false, false, false, false, false, false, false, false, false, false, false, false, false, false, false, false, false, false, false, false, false, false, false, false, false, false, false, false, false, false, false, false, false, false, false, false, false, false, false, false, false, false, false]) (d := some 33) rfl (by kernel_rfl) (by kernel_rfl) (by kernel_rfl) (by kernel_rfl) (fun _ _ _ h => h) HF.out (by kernel_rfl) ?_ rfl rfl ?_ ?_
  rotate_left
  · intro w' hF; have f10 := hF.2.1.box.cell0; have f11 := hF.2.1.box.cell1; have f20 := hF.2.2.1.box.cell0; have f21 := hF.2.2.1.box.cell1; have f30 := hF.2.2.2.1.box.cell0; have f31 := hF.2.2.2.1.box.cell1; have f40 := hF.2.2.2.2.box.cell0; have f41 := hF.2.2.2.2.box.cell1; clear hF; go_simp; try rfl
  rotate_left
  · simp only [Act.put]; exact rfl
  refine Calm.take (i := 7) (v := ?_) (a' := ?_) (l' := #[true, true, true, true, true, true, true, true, false, false, false, false, false, false, false, false, false, false, false, false, false, false, false, false, false, false, false, false, false, false, false, false, false, false, false, false, false, false, false, false, false, false, false, false, false, false, false, false, false, false, false, false, false, false, false, false, false, false, false, false, false, false, false, false, false, false, false, false, false]) (d := some 34) rfl (by kernel_rfl) (by kernel_rfl) (by kernel_rfl) (by kernel_rfl) (fun _ _ _ h => h) HF.out (by kernel_rfl) ?_ rfl rfl ?_ ?_
  rotate_left
  · intro w' hF; have f10 := hF.2.1.box.cell0; have f11 := hF.2.1.box.cell1; have f20 := hF.2.2.1.box.cell0; have f21 := hF.2.2.1.box.cell1; have f30 := hF.2.2.2.1.box.cell0; have f31 := hF.2.2.2.1.box.cell1; have f40 := hF.2.2.2.2.box.cell0; have f41 := hF.2.2.2.2.box.cell1; clear hF; go_simp; try rfl
  rotate_left
  · simp only [Act.put]; exact rfl
  refine Calm.take (i := 9) (v := ?_) (a' := ?_) (l' := #[true, true, true, true, true, true, true, true, false, true, false, false, false, false, false, false, false, false, false, false, false, false, false, false, false, false, false, false, false, false, false, false, false, false, false, false, false, false, false, false, false, false, false, false, false, false, false, false, false, false, false, false, false, false, false, false, false, false, false, false, false, false, false, false, false, false, false, false, false]) (d := some 36) rfl (by kernel_rfl) (by kernel_rfl) (by kernel_rfl) (by kernel_rfl) (fun _ _ _ h => h) HF.out (by kernel_rfl) ?_ rfl rfl ?_ ?_
  rotate_left
  · intro w' hF; have f10 := hF.2.1.box.cell0; have f11 := hF.2.1.box.cell1; have f20 := hF.2.2.1.box.cell0; have f21 := hF.2.2.1.box.cell1; have f30 := hF.2.2.2.1.box.cell0; have f31 := hF.2.2.2.1.box.cell1; have f40 := hF.2.2.2.2.box.cell0; have f41 := hF.2.2.2.2.box.cell1; clear hF; go_simp; try rfl
  rotate_left
  · simp only [Act.put]; exact rfl
  refine Calm.take (i := 10) (v := ?_) (a' := ?_) (l' := #[true, true, true, true, true, true, true, true, false, true, true, false, false, false, false, false, false, false, false, false, false, false, false, false, false, false, false, false, false, false, false, false, false, false, false, false, false, false, false, false, false, false, false, false, false, false, false, false, false, false, false, false, false, false, false, false, false, false, false, false, false, false, false, false, false, false, false, false, false]) (d := some 37) rfl (by kernel_rfl) (by kernel_rfl) (by kernel_rfl) (by kernel_rfl) (fun _ _ _ h => h) HF.out (by kernel_rfl) ?_ rfl rfl ?_ ?_
  rotate_left
  · intro w' hF; have f10 := hF.2.1.box.cell0; have f11 := hF.2.1.box.cell1; have f20 := hF.2.2.1.box.cell0; have f21 := hF.2.2.1.box.cell1; have f30 := hF.2.2.2.1.box.cell0; have f31 := hF.2.2.2.1.box.cell1; have f40 := hF.2.2.2.2.box.cell0; have f41 := hF.2.2.2.2.box.cell1; clear hF; go_simp; try rfl
  rotate_left
  · simp only [Act.put]; exact rfl
  refine Calm.one (i := 8) (l' := #[true, true, true, true, true, true, true, true, true, true, true, false, false, false, false, false, false, false, false, false, false, false, false, false, false, false, false, false, false, false, false, false, false, false, false, false, false, false, false, false, false, false, false, false, false, false, false, false, false, false, false, false, false, false, false, false, false, false, false, false, false, false, false, false, false, false, false, false, false]) (by kernel_rfl) rfl (by kernel_rfl) rfl fun K hK => ?_
  go_simp
  refine (icmp_any _ _ (sg b0 (val xs)) (sg b1 (val ys)) _ HF.out.2.1.int HF.out.2.2.2.1.int).mono ?_
  rintro e u2 ⟨rfl, hb⟩
  try replace BX := hide (BX.out.step hb)
  have HF' := hide (And.intro (HF.out.1.trans ((hb).mono HF.out.1.size)) (And.intro (HF.out.2.1.step (hb)) (And.intro (HF.out.2.2.1.step (hb)) (And.intro (HF.out.2.2.2.1.step (hb)) (HF.out.2.2.2.2.step (hb))))))
  refine hK _ _ (fun _ => HF'.out) ?_
  clear hK K HF hb
  have HF := hide HF'.out
  clear HF'
  refine Calm.one (i := 11) (l' := #[true, true, true, true, true, true, true, true, true, true, true, true, false, false, false, false, false, false, false, false, false, false, false, false, false, false, false, false, false, false, false, false, false, false, false, false, false, false, false, false, false, false, false, false, false, false, false, false, false, false, false, false, false, false, false, false, false, false, false, false, false, false, false, false, false, false, false, false, false]) (by kernel_rfl) rfl (by kernel_rfl) rfl fun K hK => ?_
  go_simp
  refine (rcmp_any _ _ (sg b0 (val xs)) (sg b1 (val ys)) _ HF.out.2.2.1.int HF.out.2.2.2.2.int).mono ?_
  rintro e u3 ⟨rfl, hb⟩
  try replace BX := hide (BX.out.step hb)
  have HF' := hide (And.intro (HF.out.1.trans ((hb).mono HF.out.1.size)) (And.intro (HF.out.2.1.step (hb)) (And.intro (HF.out.2.2.1.step (hb)) (And.intro (HF.out.2.2.2.1.step (hb)) (HF.out.2.2.2.2.step (hb))))))
  refine hK _ _ (fun _ => HF'.out) ?_
  clear hK K HF hb
  have HF := hide HF'.out
  clear HF'
  refine Calm.take (i := 12) (v := ?_) (a' := ?_) (l' := #[true, true, true, true, true, true, true, true, true, true, true, true, true, false, false, false, false, false, false, false, false, false, false, false, false, false, false, false, false, false, false, false, false, false, false, false, false, false, false, false, false, false, false, false, false, false, false, false, false, false, false, false, false, false, false, false, false, false, false, false, false, false, false, false, false, false, false, false, false]) (d := some 39) rfl (by kernel_rfl) (by kernel_rfl) (by kernel_rfl) (by kernel_rfl) (fun _ _ _ h => h) HF.out (by kernel_rfl) ?_ rfl rfl ?_ ?_
  rotate_left
  · intro w' hF; clear hF; go_simp; try rfl
  rotate_left
  · simp only [Act.put]; exact rfl
  refine Calm.take (i := 13) (v := ?_) (a' := ?_) (l' := #[true, true, true, true, true, true, true, true, true, true, true, true, true, true, false, false, false, false, false, false, false, false, false, false, false, false, false, false, false, false, false, false, false, false, false, false, false, false, false, false, false, false, false, false, false, false, false, false, false, false, false, false, false, false, false, false, false, false, false, false, false, false, false, false, false, false, false, false, false]) (d := some 40) rfl (by kernel_rfl) (by kernel_rfl) (by kernel_rfl) (by kernel_rfl) (fun _ _ _ h => h) HF.out rfl ?_ rfl rfl ?_ ?_
  rotate_left
  · intro w' hF; clear hF; go_simp; try rfl
  rotate_left
  · simp only [Act.put]; exact rfl
  refine Calm.take (i := 14) (v := ?_) (a' := ?_) (l' := #[true, true, true, true, true, true, true, true, true, true, true, true, true, true, true, false, false, false, false, false, false, false, false, false, false, false, false, false, false, false, false, false, false, false, false, false, false, false, false, false, false, false, false, false, false, false, false, false, false, false, false, false, false, false, false, false, false, false, false, false, false, false, false, false, false, false, false, false, false]) (d := some 41) rfl (by kernel_rfl) (by kernel_rfl) (by kernel_rfl) (by kernel_rfl) (fun _ _ _ h => h) HF.out rfl ?_ rfl rfl ?_ ?_
  rotate_left
  · intro w' hF; clear hF; go_simp; try rfl
  rotate_left
  · simp only [Act.put]; exact rfl
  refine Calm.take (i := 15) (v := ?_) (a' := ?_) (l' := #[true, true, true, true, true, true, true, true, true, true, true, true, true, true, true, true, false, false, false, false, false, false, false, false, false, false, false, false, false, false, false, false, false, false, false, false, false, false, false, false, false, false, false, false, false, false, false, false, false, false, false, false, false, false, false, false, false, false, false, false, false, false, false, false, false, false, false, false, false]) (d := some 42) rfl (by kernel_rfl) (by kernel_rfl) (by kernel_rfl) (by kernel_rfl) (fun _ _ _ h => h) HF.out (by kernel_rfl) ?_ rfl rfl ?_ ?_
  rotate_left
  · intro w' hF; have f10 := hF.2.1.box.cell0; have f11 := hF.2.1.box.cell1; have f20 := hF.2.2.1.box.cell0; have f21 := hF.2.2.1.box.cell1; have f30 := hF.2.2.2.1.box.cell0; have f31 := hF.2.2.2.1.box.cell1; have f40 := hF.2.2.2.2.box.cell0; have f41 := hF.2.2.2.2.box.cell1; clear hF; go_simp; try rfl
  rotate_left
  · simp only [Act.put]; exact rfl
  refine Calm.take (i := 17) (v := ?_) (a' := ?_) (l' := #[true, true, true, true, true, true, true, true, true, true, true, true, true, true, true, true, false, true, false, false, false, false, false, false, false, false, false, false, false, false, false, false, false, false, false, false, false, false, false, false, false, false, false, false, false, false, false, false, false, false, false, false, false, false, false, false, false, false, false, false, false, false, false, false, false, false, false, false, false]) (d := some 44) rfl (by kernel_rfl) (by kernel_rfl) (by kernel_rfl) (by kernel_rfl) (fun _ _ _ h => h) HF.out (by kernel_rfl) ?_ rfl rfl ?_ ?_
  rotate_left
  · intro w' hF; have f10 := hF.2.1.box.cell0; have f11 := hF.2.1.box.cell1; have f20 := hF.2.2.1.box.cell0; have f21 := hF.2.2.1.box.cell1; have f30 := hF.2.2.2.1.box.cell0; have f31 := hF.2.2.2.1.box.cell1; have f40 := hF.2.2.2.2.box.cell0; have f41 := hF.2.2.2.2.box.cell1; clear hF; go_simp; try rfl
  rotate_left
  · simp only [Act.put]; exact rfl
  refine Calm.one (i := 16) (l' := #[true, true, true, true, true, true, true, true, true, true, true, true, true, true, true, true, true, true, false, false, false, false, false, false, false, false, false, false, false, false, false, false, false, false, false, false, false, false, false, false, false, false, false, false, false, false, false, false, false, false, false, false, false, false, false, false, false, false, false, false, false, false, false, false, false, false, false, false, false]) (by kernel_rfl) rfl (by kernel_rfl) rfl fun K hK => ?_
  go_simp
  refine (ineg_any _ (sg b0 (val xs)) _ HF.out.2.1.int).mono ?_
  rintro e u4 ⟨v4, rfl, n, hb⟩
  try replace BX := hide (BX.out.step hb)
  have T1 := hide n
  clear n
  have HF' := hide (And.intro (HF.out.1.trans ((hb).mono HF.out.1.size)) (And.intro (HF.out.2.1.step (hb)) (And.intro (HF.out.2.2.1.step (hb)) (And.intro (HF.out.2.2.2.1.step (hb)) (HF.out.2.2.2.2.step (hb))))))
  refine hK _ _ (fun _ => HF'.out) ?_
  clear hK K HF hb
  have HF := hide HF'.out
  clear HF'
  refine Calm.one (i := 18) (l' := #[true, true, true, true, true, true, true, true, true, true, true, true, true, true, true, true, true, true, true, false, false, false, false, false, false, false, false, false, false, false, false, false, false, false, false, false, false, false, false, false, false, false, false, false, false, false, false, false, false, false, false, false, false, false, false, false, false, false, false, false, false, false, false, false, false, false, false, false, false]) (by kernel_rfl) rfl (by kernel_rfl) rfl fun K hK => ?_
  go_simp
  refine (rneg_any _ (sg b0 (val xs)) _ HF.out.2.2.1.int).mono ?_
  rintro e u5 ⟨v5, rfl, n, hb⟩
  try replace BX := hide (BX.out.step hb)
  replace T1 := hide (T1.out.below hb)
  have T2 := hide n
  clear n
  have HF' := hide (And.intro (HF.out.1.trans ((hb).mono HF.out.1.size)) (And.intro (HF.out.2.1.step (hb)) (And.intro (HF.out.2.2.1.step (hb)) (And.intro (HF.out.2.2.2.1.step (hb)) (HF.out.2.2.2.2.step (hb))))))
  refine hK _ _ (fun _ => HF'.out) ?_
  clear hK K HF hb
  have HF := hide HF'.out
  clear HF'
  refine Calm.one (i := 19) (l' := #[true, true, true, true, true, true, true, true, true, true, true, true, true, true, true, true, true, true, true, true, false, false, false, false, false, false, false, false, false, false, false, false, false, false, false, false, false, false, false, false, false, false, false, false, false, false, false, false, false, false, false, false, false, false, false, false, false, false, false, false, false, false, false, false, false, false, false, false, false]) (by kernel_rfl) rfl (by kernel_rfl) rfl fun K hK => ?_
  go_simp
  refine (is_yes _ _ (-(sg b0 (val xs))) _ T1.out T2.out (SzI.len (SzI.neg SX.out) (by decide)) (Nat.le_trans (SzI.dlen (SzI.neg SX.out) (by decide)) (by decide))).mono ?_
  rintro e u6 ⟨rfl, hb⟩
  try replace BX := hide (BX.out.step hb)
  clear T1
  clear T2
  have HF' := hide (And.intro (HF.out.1.trans ((hb).mono HF.out.1.size)) (And.intro (HF.out.2.1.step (hb)) (And.intro (HF.out.2.2.1.step (hb)) (And.intro (HF.out.2.2.2.1.step (hb)) (HF.out.2.2.2.2.step (hb))))))
  refine hK _ _ (fun _ => HF'.out) ?_
  clear hK K HF hb
  have HF := hide HF'.out
  clear HF'
  refine Calm.take (i := 20) (v := ?_) (a' := ?_) (l' := #[true, true, true, true, true, true, true, true, true, true, true, true, true, true, true, true, true, true, true, true, true, false, false, false, false, false, false, false, false, false, false, false, false, false, false, false, false, false, false, false, false, false, false, false, false, false, false, false, false, false, false, false, false, false, false, false, false, false, false, false, false, false, false, false, false, false, false, false, false]) (d := some 47) rfl (by kernel_rfl) (by kernel_rfl) (by kernel_rfl) (by kernel_rfl) (fun _ _ _ h => h) HF.out rfl ?_ rfl rfl ?_ ?_
  rotate_left
  · intro w' hF; clear hF; go_simp; try rfl
  rotate_left
  · simp only [Act.put]; exact rfl
  refine Calm.take (i := 21) (v := ?_) (a' := ?_) (l' := #[true, true, true, true, true, true, true, true, true, true, true, true, true, true, true, true, true, true, true, true, true, true, false, false, false, false, false, false, false, false, false, false, false, false, false, false, false, false, false, false, false, false, false, false, false, false, false, false, false, false, false, false, false, false, false, false, false, false, false, false, false, false, false, false, false, false, false, false, false]) (d := some 48) rfl (by kernel_rfl) (by kernel_rfl) (by kernel_rfl) (by kernel_rfl) (fun _ _ _ h => h) HF.out rfl ?_ rfl rfl ?_ ?_
  rotate_left
  · intro w' hF; clear hF; go_simp; try rfl
  rotate_left
  · simp only [Act.put]; exact rfl
  refine Calm.take (i := 22) (v := ?_) (a' := ?_) (l' := #[true, true, true, true, true, true, true, true, true, true, true, true, true, true, true, true, true, true, true, true, true, true, true, false, false, false, false, false, false, false, false, false, false, false, false, false, false, false, false, false, false, false, false, false, false, false, false, false, false, false, false, false, false, false, false, false, false, false, false, false, false, false, false, false, false, false, false, false, false]) (d := some 49) rfl (by kernel_rfl) (by kernel_rfl) (by kernel_rfl) (by kernel_rfl) (fun _ _ _ h => h) HF.out (by kernel_rfl) ?_ rfl rfl ?_ ?_
  rotate_left
  · intro w' hF; have f10 := hF.2.1.box.cell0; have f11 := hF.2.1.box.cell1; have f20 := hF.2.2.1.box.cell0; have f21 := hF.2.2.1.box.cell1; have f30 := hF.2.2.2.1.box.cell0; have f31 := hF.2.2.2.1.box.cell1; have f40 := hF.2.2.2.2.box.cell0; have f41 := hF.2.2.2.2.box.cell1; clear hF; go_simp; try rfl
  rotate_left
  · simp only [Act.put]; exact rfl
  refine Calm.take (i := 24) (v := ?_) (a' := ?_) (l' := #[true, true, true, true, true, true, true, true, true, true, true, true, true, true, true, true, true, true, true, true, true, true, true, false, true, false, false, false, false, false, false, false, false, false, false, false, false, false, false, false, false, false, false, false, false, false, false, false, false, false, false, false, false, false, false, false, false, false, false, false, false, false, false, false, false, false, false, false, false]) (d := some 51) rfl (by kernel_rfl) (by kernel_rfl) (by kernel_rfl) (by kernel_rfl) (fun _ _ _ h => h) HF.out (by kernel_rfl) ?_ rfl rfl ?_ ?_
  rotate_left
  · intro w' hF; have f10 := hF.2.1.box.cell0; have f11 := hF.2.1.box.cell1; have f20 := hF.2.2.1.box.cell0; have f21 := hF.2.2.1.box.cell1; have f30 := hF.2.2.2.1.box.cell0; have f31 := hF.2.2.2.1.box.cell1; have f40 := hF.2.2.2.2.box.cell0; have f41 := hF.2.2.2.2.box.cell1; clear hF; go_simp; try rfl
  rotate_left
  · simp only [Act.put]; exact rfl
  refine Calm.one (i := 23) (l' := #[true, true, true, true, true, true, true, true, true, true, true, true, true, true, true, true, true, true, true, true, true, true, true, true, true, false, false, false, false, false, false, false, false, false, false, false, false, false, false, false, false, false, false, false, false, false, false, false, false, false, false, false, false, false, false, false, false, false, false, false, false, false, false, false, false, false, false, false, false]) (by kernel_rfl) rfl (by kernel_rfl) rfl fun K hK => ?_
  go_simp
  refine (iabs_any _ (sg b0 (val xs)) _ HF.out.2.1.int).mono ?_
  rintro e u7 ⟨v7, rfl, n, hb⟩
  try replace BX := hide (BX.out.step hb)
  have T3 := hide n
  clear n
  have HF' := hide (And.intro (HF.out.1.trans ((hb).mono HF.out.1.size)) (And.intro (HF.out.2.1.step (hb)) (And.intro (HF.out.2.2.1.step (hb)) (And.intro (HF.out.2.2.2.1.step (hb)) (HF.out.2.2.2.2.step (hb))))))
  refine hK _ _ (fun _ => HF'.out) ?_
  clear hK K HF hb
  have HF := hide HF'.out
  clear HF'
  refine Calm.one (i := 25) (l' := #[true, true, true, true, true, true, true, true, true, true, true, true, true, true, true, true, true, true, true, true, true, true, true, true, true, true, false, false, false, false, false, false, false, false, false, false, false, false, false, false, false, false, false, false, false, false, false, false, false, false, false, false, false, false, false, false, false, false, false, false, false, false, false, false, false, false, false, false, false]) (by kernel_rfl) rfl (by kernel_rfl) rfl fun K hK => ?_
  go_simp
  refine (rabs_any _ (sg b0 (val xs)) _ HF.out.2.2.1.int).mono ?_
  rintro e u8 ⟨v8, rfl, n, hb⟩
  try replace BX := hide (BX.out.step hb)
  replace T3 := hide (T3.out.below hb)
  have T4 := hide n
  clear n
  have HF' := hide (And.intro (HF.out.1.trans ((hb).mono HF.out.1.size)) (And.intro (HF.out.2.1.step (hb)) (And.intro (HF.out.2.2.1.step (hb)) (And.intro (HF.out.2.2.2.1.step (hb)) (HF.out.2.2.2.2.step (hb))))))
  refine hK _ _ (fun _ => HF'.out) ?_
  clear hK K HF hb
  have HF := hide HF'.out
  clear HF'
  refine Calm.one (i := 26) (l' := #[true, true, true, true, true, true, true, true, true, true, true, true, true, true, true, true, true, true, true, true, true, true, true, true, true, true, true, false, false, false, false, false, false, false, false, false, false, false, false, false, false, false, false, false, false, false, false, false, false, false, false, false, false, false, false, false, false, false, false, false, false, false, false, false, false, false, false, false, false]) (by kernel_rfl) rfl (by kernel_rfl) rfl fun K hK => ?_
  go_simp
  refine (is_yes _ _ (((sg b0 (val xs))).natAbs : Int) _ T3.out T4.out (SzI.len (SzI.abs SX.out) (by decide)) (Nat.le_trans (SzI.dlen (SzI.abs SX.out) (by decide)) (by decide))).mono ?_
  rintro e u9 ⟨rfl, hb⟩
  try replace BX := hide (BX.out.step hb)
  clear T3
  clear T4
  have HF' := hide (And.intro (HF.out.1.trans ((hb).mono HF.out.1.size)) (And.intro (HF.out.2.1.step (hb)) (And.intro (HF.out.2.2.1.step (hb)) (And.intro (HF.out.2.2.2.1.step (hb)) (HF.out.2.2.2.2.step (hb))))))
  refine hK _ _ (fun _ => HF'.out) ?_
  clear hK K HF hb
  have HF := hide HF'.out
  clear HF'
  refine Calm.take (i := 27) (v := ?_) (a' := ?_) (l' := #[true, true, true, true, true, true, true, true, true, true, true, true, true, true, true, true, true, true, true, true, true, true, true, true, true, true, true, true, false, false, false, false, false, false, false, false, false, false, false, false, false, false, false, false, false, false, false, false, false, false, false, false, false, false, false, false, false, false, false, false, false, false, false, false, false, false, false, false, false]) (d := some 54) rfl (by kernel_rfl) (by kernel_rfl) (by kernel_rfl) (by kernel_rfl) (fun _ _ _ h => h) HF.out rfl ?_ rfl rfl ?_ ?_
  rotate_left
  · intro w' hF; clear hF; go_simp; try rfl
  rotate_left
  · simp only [Act.put]; exact rfl
  refine Calm.take (i := 28) (v := ?_) (a' := ?_) (l' := #[true, true, true, true, true, true, true, true, true, true, true, true, true, true, true, true, true, true, true, true, true, true, true, true, true, true, true, true, true, false, false, false, false, false, false, false, false, false, false, false, false, false, false, false, false, false, false, false, false, false, false, false, false, false, false, false, false, false, false, false, false, false, false, false, false, false, false, false, false]) (d := some 55) rfl (by kernel_rfl) (by kernel_rfl) (by kernel_rfl) (by kernel_rfl) (fun _ _ _ h => h) HF.out rfl ?_ rfl rfl ?_ ?_
  rotate_left
  · intro w' hF; clear hF; go_simp; try rfl
  rotate_left
  · simp only [Act.put]; exact rfl
  refine Calm.take (i := 29) (v := ?_) (a' := ?_) (l' := #[true, true, true, true, true, true, true, true, true, true, true, true, true, true, true, true, true, true, true, true, true, true, true, true, true, true, true, true, true, true, false, false, false, false, false, false, false, false, false, false, false, false, false, false, false, false, false, false, false, false, false, false, false, false, false, false, false, false, false, false, false, false, false, false, false, false, false, false, false]) (d := some 56) rfl (by kernel_rfl) (by kernel_rfl) (by kernel_rfl) (by kernel_rfl) (fun _ _ _ h => h) HF.out (by kernel_rfl) ?_ rfl rfl ?_ ?_
  rotate_left
  · intro w' hF; have f10 := hF.2.1.box.cell0; have f11 := hF.2.1.box.cell1; have f20 := hF.2.2.1.box.cell0; have f21 := hF.2.2.1.box.cell1; have f30 := hF.2.2.2.1.box.cell0; have f31 := hF.2.2.2.1.box.cell1; have f40 := hF.2.2.2.2.box.cell0; have f41 := hF.2.2.2.2.box.cell1; clear hF; go_simp; try rfl
  rotate_left
  · simp only [Act.put]; exact rfl
  refine Calm.take (i := 30) (v := ?_) (a' := ?_) (l' := #[true, true, true, true, true, true, true, true, true, true, true, true, true, true, true, true, true, true, true, true, true, true, true, true, true, true, true, true, true, true, true, false, false, false, false, false, false, false, false, false, false, false, false, false, false, false, false, false, false, false, false, false, false, false, false, false, false, false, false, false, false, false, false, false, false, false, false, false, false]) (d := some 57) rfl (by kernel_rfl) (by kernel_rfl) (by kernel_rfl) (by kernel_rfl) (fun _ _ _ h => h) HF.out (by kernel_rfl) ?_ rfl rfl ?_ ?_
  rotate_left
  · intro w' hF; have f10 := hF.2.1.box.cell0; have f11 := hF.2.1.box.cell1; have f20 := hF.2.2.1.box.cell0; have f21 := hF.2.2.1.box.cell1; have f30 := hF.2.2.2.1.box.cell0; have f31 := hF.2.2.2.1.box.cell1; have f40 := hF.2.2.2.2.box.cell0; have f41 := hF.2.2.2.2.box.cell1; clear hF; go_simp; try rfl
  rotate_left
  · simp only [Act.put]; exact rfl
  refine Calm.take (i := 32) (v := ?_) (a' := ?_) (l' := #[true, true, true, true, true, true, true, true, true, true, true, true, true, true, true, true, true, true, true, true, true, true, true, true, true, true, true, true, true, true, true, false, true, false, false, false, false, false, false, false, false, false, false, false, false, false, false, false, false, false, false, false, false, false, false, false, false, false, false, false, false, false, false, false, false, false, false, false, false]) (d := some 59) rfl (by kernel_rfl) (by kernel_rfl) (by kernel_rfl) (by kernel_rfl) (fun _ _ _ h => h) HF.out (by kernel_rfl) ?_ rfl rfl ?_ ?_
  rotate_left
  · intro w' hF; have f10 := hF.2.1.box.cell0; have f11 := hF.2.1.box.cell1; have f20 := hF.2.2.1.box.cell0; have f21 := hF.2.2.1.box.cell1; have f30 := hF.2.2.2.1.box.cell0; have f31 := hF.2.2.2.1.box.cell1; have f40 := hF.2.2.2.2.box.cell0; have f41 := hF.2.2.2.2.box.cell1; clear hF; go_simp; try rfl
  rotate_left
  · simp only [Act.put]; exact rfl
  refine Calm.take (i := 33) (v := ?_) (a' := ?_) (l' := #[true, true, true, true, true, true, true, true, true, true, true, true, true, true, true, true, true, true, true, true, true, true, true, true, true, true, true, true, true, true, true, false, true, true, false, false, false, false, false, false, false, false, false, false, false, false, false, false, false, false, false, false, false, false, false, false, false, false, false, false, false, false, false, false, false, false, false, false, false]) (d := some 60) rfl (by kernel_rfl) (by kernel_rfl) (by kernel_rfl) (by kernel_rfl) (fun _ _ _ h => h) HF.out (by kernel_rfl) ?_ rfl rfl ?_ ?_
  rotate_left
  · intro w' hF; have f10 := hF.2.1.box.cell0; have f11 := hF.2.1.box.cell1; have f20 := hF.2.2.1.box.cell0; have f21 := hF.2.2.1.box.cell1; have f30 := hF.2.2.2.1.box.cell0; have f31 := hF.2.2.2.1.box.cell1; have f40 := hF.2.2.2.2.box.cell0; have f41 := hF.2.2.2.2.box.cell1; clear hF; go_simp; try rfl
  rotate_left
  · simp only [Act.put]; exact rfl
  refine Calm.one (i := 31) (l' := #[true, true, true, true, true, true, true, true, true, true, true, true, true, true, true, true, true, true, true, true, true, true, true, true, true, true, true, true, true, true, true, true, true, true, false, false, false, false, false, false, false, false, false, false, false, false, false, false, false, false, false, false, false, false, false, false, false, false, false, false, false, false, false, false, false, false, false, false, false]) (by kernel_rfl) rfl (by kernel_rfl) rfl fun K hK => ?_
  go_simp
  refine (iadd_any _ _ (sg b0 (val xs)) (sg b1 (val ys)) _ HF.out.2.1.int HF.out.2.2.2.1.int (SzI.len SX.out (by decide)) (SzI.len SY.out (by decide))).mono ?_
  rintro e u10 ⟨v10, rfl, n, hb⟩
  try replace BX := hide (BX.out.step hb)
  have T5 := hide n
  clear n
  have HF' := hide (And.intro (HF.out.1.trans ((hb).mono HF.out.1.size)) (And.intro (HF.out.2.1.step (hb)) (And.intro (HF.out.2.2.1.step (hb)) (And.intro (HF.out.2.2.2.1.step (hb)) (HF.out.2.2.2.2.step (hb))))))
  refine hK _ _ (fun _ => HF'.out) ?_
  clear hK K HF hb
  have HF := hide HF'.out
  clear HF'
  refine Calm.one (i := 34) (l' := #[true, true, true, true, true, true, true, true, true, true, true, true, true, true, true, true, true, true, true, true, true, true, true, true, true, true, true, true, true, true, true, true, true, true, true, false, false, false, false, false, false, false, false, false, false, false, false, false, false, false, false, false, false, false, false, false, false, false, false, false, false, false, false, false, false, false, false, false, false]) (by kernel_rfl) rfl (by kernel_rfl) rfl fun K hK => ?_
  go_simp
  refine (radd2_any _ _ (sg b0 (val xs)) (sg b1 (val ys)) _ HF.out.2.2.1.int HF.out.2.2.2.2.int (SzI.dlen SX.out (by decide)) (SzI.dlen SY.out (by decide))).mono ?_
  rintro e u11 ⟨v11, rfl, n, hb⟩
  try replace BX := hide (BX.out.step hb)
  replace T5 := hide (T5.out.below hb)
  have T6 := hide n
  clear n
  have HF' := hide (And.intro (HF.out.1.trans ((hb).mono HF.out.1.size)) (And.intro (HF.out.2.1.step (hb)) (And.intro (HF.out.2.2.1.step (hb)) (And.intro (HF.out.2.2.2.1.step (hb)) (HF.out.2.2.2.2.step (hb))))))
  refine hK _ _ (fun _ => HF'.out) ?_
  clear hK K HF hb
  have HF := hide HF'.out
  clear HF'
  refine Calm.one (i := 35) (l' := #[true, true, true, true, true, true, true, true, true, true, true, true, true, true, true, true, true, true, true, true, true, true, true, true, true, true, true, true, true, true, true, true, true, true, true, true, false, false, false, false, false, false, false, false, false, false, false, false, false, false, false, false, false, false, false, false, false, false, false, false, false, false, false, false, false, false, false, false, false]) (by kernel_rfl) rfl (by kernel_rfl) rfl fun K hK => ?_
  go_simp
  refine (is_yes _ _ ((sg b0 (val xs)) + (sg b1 (val ys))) _ T5.out T6.out (SzI.len (SzI.add SX.out SY.out) (by decide)) (Nat.le_trans (SzI.dlen (SzI.add SX.out SY.out) (by decide)) (by decide))).mono ?_
  rintro e u12 ⟨rfl, hb⟩
  try replace BX := hide (BX.out.step hb)
  clear T5
  clear T6
  have HF' := hide (And.intro (HF.out.1.trans ((hb).mono HF.out.1.size)) (And.intro (HF.out.2.1.step (hb)) (And.intro (HF.out.2.2.1.step (hb)) (And.intro (HF.out.2.2.2.1.step (hb)) (HF.out.2.2.2.2.step (hb))))))
  refine hK _ _ (fun _ => HF'.out) ?_
  clear hK K HF hb
  have HF := hide HF'.out
  clear HF'
  refine Calm.take (i := 36) (v := ?_) (a' := ?_) (l' := #[true, true, true, true, true, true, true, true, true, true, true, true, true, true, true, true, true, true, true, true, true, true, true, true, true, true, true, true, true, true, true, true, true, true, true, true, true, false, false, false, false, false, false, false, false, false, false, false, false, false, false, false, false, false, false, false, false, false, false, false, false, false, false, false, false, false, false, false, false]) (d := some 63) rfl (by kernel_rfl) (by kernel_rfl) (by kernel_rfl) (by kernel_rfl) (fun _ _ _ h => h) HF.out rfl ?_ rfl rfl ?_ ?_
  rotate_left
  · intro w' hF; clear hF; go_simp; try rfl
  rotate_left
  · simp only [Act.put]; exact rfl
  refine Calm.take (i := 37) (v := ?_) (a' := ?_) (l' := #[true, true, true, true, true, true, true, true, true, true, true, true, true, true, true, true, true, true, true, true, true, true, true, true, true, true, true, true, true, true, true, true, true, true, true, true, true, true, false, false, false, false, false, false, false, false, false, false, false, false, false, false, false, false, false, false, false, false, false, false, false, false, false, false, false, false, false, false, false]) (d := some 64) rfl (by kernel_rfl) (by kernel_rfl) (by kernel_rfl) (by kernel_rfl) (fun _ _ _ h => h) HF.out rfl ?_ rfl rfl ?_ ?_
  rotate_left
  · intro w' hF; clear hF; go_simp; try rfl
  rotate_left
  · simp only [Act.put]; exact rfl
  refine Calm.take (i := 38) (v := ?_) (a' := ?_) (l' := #[true, true, true, true, true, true, true, true, true, true, true, true, true, true, true, true, true, true, true, true, true, true, true, true, true, true, true, true, true, true, true, true, true, true, true, true, true, true, true, false, false, false, false, false, false, false, false, false, false, false, false, false, false, false, false, false, false, false, false, false, false, false, false, false, false, false, false, false, false]) (d := some 65) rfl (by kernel_rfl) (by kernel_rfl) (by kernel_rfl) (by kernel_rfl) (fun _ _ _ h => h) HF.out (by kernel_rfl) ?_ rfl rfl ?_ ?_
  rotate_left
  · intro w' hF; have f10 := hF.2.1.box.cell0; have f11 := hF.2.1.box.cell1; have f20 := hF.2.2.1.box.cell0; have f21 := hF.2.2.1.box.cell1; have f30 := hF.2.2.2.1.box.cell0; have f31 := hF.2.2.2.1.box.cell1; have f40 := hF.2.2.2.2.box.cell0; have f41 := hF.2.2.2.2.box.cell1; clear hF; go_simp; try rfl
  rotate_left
  · simp only [Act.put]; exact rfl
  refine Calm.take (i := 39) (v := ?_) (a' := ?_) (l' := #[true, true, true, true, true, true, true, true, true, true, true, true, true, true, true, true, true, true, true, true, true, true, true, true, true, true, true, true, true, true, true, true, true, true, true, true, true, true, true, true, false, false, false, false, false, false, false, false, false, false, false, false, false, false, false, false, false, false, false, false, false, false, false, false, false, false, false, false, false]) (d := some 66) rfl (by kernel_rfl) (by kernel_rfl) (by kernel_rfl) (by kernel_rfl) (fun _ _ _ h => h) HF.out (by kernel_rfl) ?_ rfl rfl ?_ ?_
  rotate_left
  · intro w' hF; have f10 := hF.2.1.box.cell0; have f11 := hF.2.1.box.cell1; have f20 := hF.2.2.1.box.cell0; have f21 := hF.2.2.1.box.cell1; have f30 := hF.2.2.2.1.box.cell0; have f31 := hF.2.2.2.1.box.cell1; have f40 := hF.2.2.2.2.box.cell0; have f41 := hF.2.2.2.2.box.cell1; clear hF; go_simp; try rfl
  rotate_left
  · simp only [Act.put]; exact rfl
  refine Calm.take (i := 41) (v := ?_) (a' := ?_) (l' := #[true, true, true, true, true, true, true, true, true, true, true, true, true, true, true, true, true, true, true, true, true, true, true, true, true, true, true, true, true, true, true, true, true, true, true, true, true, true, true, true, false, true, false, false, false, false, false, false, false, false, false, false, false, false, false, false, false, false, false, false, false, false, false, false, false, false, false, false, false]) (d := some 68) rfl (by kernel_rfl) (by kernel_rfl) (by kernel_rfl) (by kernel_rfl) (fun _ _ _ h => h) HF.out (by kernel_rfl) ?_ rfl rfl ?_ ?_
  rotate_left
  · intro w' hF; have f10 := hF.2.1.box.cell0; have f11 := hF.2.1.box.cell1; have f20 := hF.2.2.1.box.cell0; have f21 := hF.2.2.1.box.cell1; have f30 := hF.2.2.2.1.box.cell0; have f31 := hF.2.2.2.1.box.cell1; have f40 := hF.2.2.2.2.box.cell0; have f41 := hF.2.2.2.2.box.cell1; clear hF; go_simp; try rfl
  rotate_left
  · simp only [Act.put]; exact rfl
  refine Calm.take (i := 42) (v := ?_) (a' := ?_) (l' := #[true, true, true, true, true, true, true, true, true, true, true, true, true, true, true, true, true, true, true, true, true, true, true, true, true, true, true, true, true, true, true, true, true, true, true, true, true, true, true, true, false, true, true, false, false, false, false, false, false, false, false, false, false, false, false, false, false, false, false, false, false, false, false, false, false, false, false, false, false]) (d := some 69) rfl (by kernel_rfl) (by kernel_rfl) (by kernel_rfl) (by kernel_rfl) (fun _ _ _ h => h) HF.out (by kernel_rfl) ?_ rfl rfl ?_ ?_
  rotate_left
  · intro w' hF; have f10 := hF.2.1.box.cell0; have f11 := hF.2.1.box.cell1; have f20 := hF.2.2.1.box.cell0; have f21 := hF.2.2.1.box.cell1; have f30 := hF.2.2.2.1.box.cell0; have f31 := hF.2.2.2.1.box.cell1; have f40 := hF.2.2.2.2.box.cell0; have f41 := hF.2.2.2.2.box.cell1; clear hF; go_simp; try rfl
  rotate_left
  · simp only [Act.put]; exact rfl
  refine Calm.one (i := 40) (l' := #[true, true, true, true, true, true, true, true, true, true, true, true, true, true, true, true, true, true, true, true, true, true, true, true, true, true, true, true, true, true, true, true, true, true, true, true, true, true, true, true, true, true, true, false, false, false, false, false, false, false, false, false, false, false, false, false, false, false, false, false, false, false, false, false, false, false, false, false, false]) (by kernel_rfl) rfl (by kernel_rfl) rfl fun K hK => ?_
  go_simp
  refine (isub_any _ _ (sg b0 (val xs)) (sg b1 (val ys)) _ HF.out.2.1.int HF.out.2.2.2.1.int (SzI.len SX.out (by decide)) (SzI.len SY.out (by decide))).mono ?_
  rintro e u13 ⟨v13, rfl, n, hb⟩
  try replace BX := hide (BX.out.step hb)
  have T7 := hide n
  clear n
  have HF' := hide (And.intro (HF.out.1.trans ((hb).mono HF.out.1.size)) (And.intro (HF.out.2.1.step (hb)) (And.intro (HF.out.2.2.1.step (hb)) (And.intro (HF.out.2.2.2.1.step (hb)) (HF.out.2.2.2.2.step (hb))))))
  refine hK _ _ (fun _ => HF'.out) ?_
  clear hK K HF hb
  have HF := hide HF'.out
  clear HF'
  refine Calm.one (i := 43) (l' := #[true, true, true, true, true, true, true, true, true, true, true, true, true, true, true, true, true, true, true, true, true, true, true, true, true, true, true, true, true, true, true, true, true, true, true, true, true, true, true, true, true, true, true, true, false, false, false, false, false, false, false, false, false, false, false, false, false, false, false, false, false, false, false, false, false, false, false, false, false]) (by kernel_rfl) rfl (by kernel_rfl) rfl fun K hK => ?_
  go_simp
  refine (rsub2_any _ _ (sg b0 (val xs)) (sg b1 (val ys)) _ HF.out.2.2.1.int HF.out.2.2.2.2.int (SzI.dlen SX.out (by decide)) (SzI.dlen SY.out (by decide))).mono ?_
  rintro e u14 ⟨v14, rfl, n, hb⟩
  try replace BX := hide (BX.out.step hb)
  replace T7 := hide (T7.out.below hb)
  have T8 := hide n
  clear n
  have HF' := hide (And.intro (HF.out.1.trans ((hb).mono HF.out.1.size)) (And.intro (HF.out.2.1.step (hb)) (And.intro (HF.out.2.2.1.step (hb)) (And.intro (HF.out.2.2.2.1.step (hb)) (HF.out.2.2.2.2.step (hb))))))
  refine hK _ _ (fun _ => HF'.out) ?_
  clear hK K HF hb
  have HF := hide HF'.out
  clear HF'
  refine Calm.one (i := 44) (l' := #[true, true, true, true, true, true, true, true, true, true, true, true, true, true, true, true, true, true, true, true, true, true, true, true, true, true, true, true, true, true, true, true, true, true, true, true, true, true, true, true, true, true, true, true, true, false, false, false, false, false, false, false, false, false, false, false, false, false, false, false, false, false, false, false, false, false, false, false, false]) (by kernel_rfl) rfl (by kernel_rfl) rfl fun K hK => ?_
  go_simp
  refine (is_yes _ _ ((sg b0 (val xs)) - (sg b1 (val ys))) _ T7.out T8.out (SzI.len (SzI.sub SX.out SY.out) (by decide)) (Nat.le_trans (SzI.dlen (SzI.sub SX.out SY.out) (by decide)) (by decide))).mono ?_
  rintro e u15 ⟨rfl, hb⟩
  try replace BX := hide (BX.out.step hb)
  clear T7
  clear T8
  have HF' := hide (And.intro (HF.out.1.trans ((hb).mono HF.out.1.size)) (And.intro (HF.out.2.1.step (hb)) (And.intro (HF.out.2.2.1.step (hb)) (And.intro (HF.out.2.2.2.1.step (hb)) (HF.out.2.2.2.2.step (hb))))))
  refine hK _ _ (fun _ => HF'.out) ?_
  clear hK K HF hb
  have HF := hide HF'.out
  clear HF'
  refine Calm.take (i := 45) (v := ?_) (a' := ?_) (l' := #[true, true, true, true, true, true, true, true, true, true, true, true, true, true, true, true, true, true, true, true, true, true, true, true, true, true, true, true, true, true, true, true, true, true, true, true, true, true, true, true, true, true, true, true, true, true, false, false, false, false, false, false, false, false, false, false, false, false, false, false, false, false, false, false, false, false, false, false, false]) (d := some 72) rfl (by kernel_rfl) (by kernel_rfl) (by kernel_rfl) (by kernel_rfl) (fun _ _ _ h => h) HF.out rfl ?_ rfl rfl ?_ ?_
  rotate_left
  · intro w' hF; clear hF; go_simp; try rfl
  rotate_left
  · simp only [Act.put]; exact rfl
  refine Calm.take (i := 46) (v := ?_) (a' := ?_) (l' := #[true, true, true, true, true, true, true, true, true, true, true, true, true, true, true, true, true, true, true, true, true, true, true, true, true, true, true, true, true, true, true, true, true, true, true, true, true, true, true, true, true, true, true, true, true, true, true, false, false, false, false, false, false, false, false, false, false, false, false, false, false, false, false, false, false, false, false, false, false]) (d := some 73) rfl (by kernel_rfl) (by kernel_rfl) (by kernel_rfl) (by kernel_rfl) (fun _ _ _ h => h) HF.out rfl ?_ rfl rfl ?_ ?_
  rotate_left
  · intro w' hF; clear hF; go_simp; try rfl
  rotate_left
  · simp only [Act.put]; exact rfl
  refine Calm.take (i := 47) (v := ?_) (a' := ?_) (l' := #[true, true, true, true, true, true, true, true, true, true, true, true, true, true, true, true, true, true, true, true, true, true, true, true, true, true, true, true, true, true, true, true, true, true, true, true, true, true, true, true, true, true, true, true, true, true, true, true, false, false, false, false, false, false, false, false, false, false, false, false, false, false, false, false, false, false, false, false, false]) (d := some 74) rfl (by kernel_rfl) (by kernel_rfl) (by kernel_rfl) (by kernel_rfl) (fun _ _ _ h => h) HF.out (by kernel_rfl) ?_ rfl rfl ?_ ?_
  rotate_left
  · intro w' hF; have f10 := hF.2.1.box.cell0; have f11 := hF.2.1.box.cell1; have f20 := hF.2.2.1.box.cell0; have f21 := hF.2.2.1.box.cell1; have f30 := hF.2.2.2.1.box.cell0; have f31 := hF.2.2.2.1.box.cell1; have f40 := hF.2.2.2.2.box.cell0; have f41 := hF.2.2.2.2.box.cell1; clear hF; go_simp; try rfl
  rotate_left
  · simp only [Act.put]; exact rfl
  refine Calm.take (i := 48) (v := ?_) (a' := ?_) (l' := #[true, true, true, true, true, true, true, true, true, true, true, true, true, true, true, true, true, true, true, true, true, true, true, true, true, true, true, true, true, true, true, true, true, true, true, true, true, true, true, true, true, true, true, true, true, true, true, true, true, false, false, false, false, false, false, false, false, false, false, false, false, false, false, false, false, false, false, false, false]) (d := some 75) rfl (by kernel_rfl) (by kernel_rfl) (by kernel_rfl) (by kernel_rfl) (fun _ _ _ h => h) HF.out (by kernel_rfl) ?_ rfl rfl ?_ ?_
  rotate_left
  · intro w' hF; have f10 := hF.2.1.box.cell0; have f11 := hF.2.1.box.cell1; have f20 := hF.2.2.1.box.cell0; have f21 := hF.2.2.1.box.cell1; have f30 := hF.2.2.2.1.box.cell0; have f31 := hF.2.2.2.1.box.cell1; have f40 := hF.2.2.2.2.box.cell0; have f41 := hF.2.2.2.2.box.cell1; clear hF; go_simp; try rfl
  rotate_left
  · simp only [Act.put]; exact rfl
  refine Calm.take (i := 50) (v := ?_) (a' := ?_) (l' := #[true, true, true, true, true, true, true, true, true, true, true, true, true, true, true, true, true, true, true, true, true, true, true, true, true, true, true, true, true, true, true, true, true, true, true, true, true, true, true, true, true, true, true, true, true, true, true, true, true, false, true, false, false, false, false, false, false, false, false, false, false, false, false, false, false, false, false, false, false]) (d := some 77) rfl (by kernel_rfl) (by kernel_rfl) (by kernel_rfl) (by kernel_rfl) (fun _ _ _ h => h) HF.out (by kernel_rfl) ?_ rfl rfl ?_ ?_
  rotate_left
  · intro w' hF; have f10 := hF.2.1.box.cell0; have f11 := hF.2.1.box.cell1; have f20 := hF.2.2.1.box.cell0; have f21 := hF.2.2.1.box.cell1; have f30 := hF.2.2.2.1.box.cell0; have f31 := hF.2.2.2.1.box.cell1; have f40 := hF.2.2.2.2.box.cell0; have f41 := hF.2.2.2.2.box.cell1; clear hF; go_simp; try rfl
  rotate_left
  · simp only [Act.put]; exact rfl
  refine Calm.take (i := 51) (v := ?_) (a' := ?_) (l' := #[true, true, true, true, true, true, true, true, true, true, true, true, true, true, true, true, true, true, true, true, true, true, true, true, true, true, true, true, true, true, true, true, true, true, true, true, true, true, true, true, true, true, true, true, true, true, true, true, true, false, true, true, false, false, false, false, false, false, false, false, false, false, false, false, false, false, false, false, false]) (d := some 78) rfl (by kernel_rfl) (by kernel_rfl) (by kernel_rfl) (by kernel_rfl) (fun _ _ _ h => h) HF.out (by kernel_rfl) ?_ rfl rfl ?_ ?_
  rotate_left
  · intro w' hF; have f10 := hF.2.1.box.cell0; have f11 := hF.2.1.box.cell1; have f20 := hF.2.2.1.box.cell0; have f21 := hF.2.2.1.box.cell1; have f30 := hF.2.2.2.1.box.cell0; have f31 := hF.2.2.2.1.box.cell1; have f40 := hF.2.2.2.2.box.cell0; have f41 := hF.2.2.2.2.box.cell1; clear hF; go_simp; try rfl
  rotate_left
  · simp only [Act.put]; exact rfl
  refine Calm.one (i := 49) (l' := #[true, true, true, true, true, true, true, true, true, true, true, true, true, true, true, true, true, true, true, true, true, true, true, true, true, true, true, true, true, true, true, true, true, true, true, true, true, true, true, true, true, true, true, true, true, true, true, true, true, true, true, true, false, false, false, false, false, false, false, false, false, false, false, false, false, false, false, false, false]) (by kernel_rfl) rfl (by kernel_rfl) rfl fun K hK => ?_
  go_simp
  refine (imul_any _ _ (sg b0 (val xs)) (sg b1 (val ys)) _ HF.out.2.1.int HF.out.2.2.2.1.int (SzI.len SX.out (by decide)) (SzI.len SY.out (by decide))).mono ?_
  rintro e u16 ⟨v16, rfl, n, hb⟩
  try replace BX := hide (BX.out.step hb)
  have T9 := hide n
  clear n
  have HF' := hide (And.intro (HF.out.1.trans ((hb).mono HF.out.1.size)) (And.intro (HF.out.2.1.step (hb)) (And.intro (HF.out.2.2.1.step (hb)) (And.intro (HF.out.2.2.2.1.step (hb)) (HF.out.2.2.2.2.step (hb))))))
  refine hK _ _ (fun _ => HF'.out) ?_
  clear hK K HF hb
  have HF := hide HF'.out
  clear HF'
  refine Calm.one (i := 52) (l' := #[true, true, true, true, true, true, true, true, true, true, true, true, true, true, true, true, true, true, true, true, true, true, true, true, true, true, true, true, true, true, true, true, true, true, true, true, true, true, true, true, true, true, true, true, true, true, true, true, true, true, true, true, true, false, false, false, false, false, false, false, false, false, false, false, false, false, false, false, false]) (by kernel_rfl) rfl (by kernel_rfl) rfl fun K hK => ?_
  go_simp
  refine (rmul2_any _ _ (sg b0 (val xs)) (sg b1 (val ys)) _ HF.out.2.2.1.int HF.out.2.2.2.2.int (SzI.dlen SX.out (by decide)) (SzI.dlen SY.out (by decide))).mono ?_
  rintro e u17 ⟨v17, rfl, n, hb⟩
  try replace BX := hide (BX.out.step hb)
  replace T9 := hide (T9.out.below hb)
  have T10 := hide n
  clear n
  have HF' := hide (And.intro (HF.out.1.trans ((hb).mono HF.out.1.size)) (And.intro (HF.out.2.1.step (hb)) (And.intro (HF.out.2.2.1.step (hb)) (And.intro (HF.out.2.2.2.1.step (hb)) (HF.out.2.2.2.2.step (hb))))))
  refine hK _ _ (fun _ => HF'.out) ?_
  clear hK K HF hb
  have HF := hide HF'.out
  clear HF'
  refine Calm.one (i := 53) (l' := #[true, true, true, true, true, true, true, true, true, true, true, true, true, true, true, true, true, true, true, true, true, true, true, true, true, true, true, true, true, true, true, true, true, true, true, true, true, true, true, true, true, true, true, true, true, true, true, true, true, true, true, true, true, true, false, false, false, false, false, false, false, false, false, false, false, false, false, false, false]) (by kernel_rfl) rfl (by kernel_rfl) rfl fun K hK => ?_
  go_simp
  refine (is_yes _ _ ((sg b0 (val xs)) * (sg b1 (val ys))) _ T9.out T10.out (SzI.len (SzI.mul SX.out SY.out) (by decide)) (Nat.le_trans (SzI.dlen (SzI.mul SX.out SY.out) (by decide)) (by decide))).mono ?_
  rintro e u18 ⟨rfl, hb⟩
  try replace BX := hide (BX.out.step hb)
  clear T9
  clear T10
  have HF' := hide (And.intro (HF.out.1.trans ((hb).mono HF.out.1.size)) (And.intro (HF.out.2.1.step (hb)) (And.intro (HF.out.2.2.1.step (hb)) (And.intro (HF.out.2.2.2.1.step (hb)) (HF.out.2.2.2.2.step (hb))))))
  refine hK _ _ (fun _ => HF'.out) ?_
  clear hK K HF hb
  have HF := hide HF'.out
  clear HF'
  refine Calm.take (i := 54) (v := ?_) (a' := ?_) (l' := #[true, true, true, true, true, true, true, true, true, true, true, true, true, true, true, true, true, true, true, true, true, true, true, true, true, true, true, true, true, true, true, true, true, true, true, true, true, true, true, true, true, true, true, true, true, true, true, true, true, true, true, true, true, true, true, false, false, false, false, false, false, false, false, false, false, false, false, false, false]) (d := some 81) rfl (by kernel_rfl) (by kernel_rfl) (by kernel_rfl) (by kernel_rfl) (fun _ _ _ h => h) HF.out rfl ?_ rfl rfl ?_ ?_
  rotate_left
  · intro w' hF; clear hF; go_simp; try rfl
  rotate_left
  · simp only [Act.put]; exact rfl
  refine Calm.take (i := 55) (v := ?_) (a' := ?_) (l' := #[true, true, true, true, true, true, true, true, true, true, true, true, true, true, true, true, true, true, true, true, true, true, true, true, true, true, true, true, true, true, true, true, true, true, true, true, true, true, true, true, true, true, true, true, true, true, true, true, true, true, true, true, true, true, true, true, false, false, false, false, false, false, false, false, false, false, false, false, false]) (d := some 82) rfl (by kernel_rfl) (by kernel_rfl) (by kernel_rfl) (by kernel_rfl) (fun _ _ _ h => h) HF.out rfl ?_ rfl rfl ?_ ?_
  rotate_left
  · intro w' hF; clear hF; go_simp; try rfl
  rotate_left
  · simp only [Act.put]; exact rfl
  refine Calm.take (i := 56) (v := ?_) (a' := ?_) (l' := #[true, true, true, true, true, true, true, true, true, true, true, true, true, true, true, true, true, true, true, true, true, true, true, true, true, true, true, true, true, true, true, true, true, true, true, true, true, true, true, true, true, true, true, true, true, true, true, true, true, true, true, true, true, true, true, true, true, false, false, false, false, false, false, false, false, false, false, false, false]) (d := some 83) rfl (by kernel_rfl) (by kernel_rfl) (by kernel_rfl) (by kernel_rfl) (fun _ _ _ h => h) HF.out (by kernel_rfl) ?_ rfl rfl ?_ ?_
  rotate_left
  · intro w' hF; have f10 := hF.2.1.box.cell0; have f11 := hF.2.1.box.cell1; have f20 := hF.2.2.1.box.cell0; have f21 := hF.2.2.1.box.cell1; have f30 := hF.2.2.2.1.box.cell0; have f31 := hF.2.2.2.1.box.cell1; have f40 := hF.2.2.2.2.box.cell0; have f41 := hF.2.2.2.2.box.cell1; clear hF; go_simp; try rfl
  rotate_left
  · simp only [Act.put]; exact rfl
  refine Calm.take (i := 57) (v := ?_) (a' := ?_) (l' := #[true, true, true, true, true, true, true, true, true, true, true, true, true, true, true, true, true, true, true, true, true, true, true, true, true, true, true, true, true, true, true, true, true, true, true, true, true, true, true, true, true, true, true, true, true, true, true, true, true, true, true, true, true, true, true, true, true, true, false, false, false, false, false, false, false, false, false, false, false]) (d := some 84) rfl (by kernel_rfl) (by kernel_rfl) (by kernel_rfl) (by kernel_rfl) (fun _ _ _ h => h) HF.out (by kernel_rfl) ?_ rfl rfl ?_ ?_
  rotate_left
  · intro w' hF; clear hF; go_simp; try rfl
  rotate_left
  · simp only [Act.put]; exact rfl
  refine Calm.take (i := 59) (v := ?_) (a' := ?_) (l' := #[true, true, true, true, true, true, true, true, true, true, true, true, true, true, true, true, true, true, true, true, true, true, true, true, true, true, true, true, true, true, true, true, true, true, true, true, true, true, true, true, true, true, true, true, true, true, true, true, true, true, true, true, true, true, true, true, true, true, false, true, false, false, false, false, false, false, false, false, false]) (d := some 86) rfl (by kernel_rfl) (by kernel_rfl) (by kernel_rfl) (by kernel_rfl) (fun _ _ _ h => h) HF.out (by kernel_rfl) ?_ rfl rfl ?_ ?_
  rotate_left
  · intro w' hF; have f10 := hF.2.1.box.cell0; have f11 := hF.2.1.box.cell1; have f20 := hF.2.2.1.box.cell0; have f21 := hF.2.2.1.box.cell1; have f30 := hF.2.2.2.1.box.cell0; have f31 := hF.2.2.2.1.box.cell1; have f40 := hF.2.2.2.2.box.cell0; have f41 := hF.2.2.2.2.box.cell1; clear hF; go_simp; try rfl
  rotate_left
  · simp only [Act.put]; exact rfl
  refine Calm.take (i := 60) (v := ?_) (a' := ?_) (l' := #[true, true, true, true, true, true, true, true, true, true, true, true, true, true, true, true, true, true, true, true, true, true, true, true, true, true, true, true, true, true, true, true, true, true, true, true, true, true, true, true, true, true, true, true, true, true, true, true, true, true, true, true, true, true, true, true, true, true, false, true, true, false, false, false, false, false, false, false, false]) (d := some 87) rfl (by kernel_rfl) (by kernel_rfl) (by kernel_rfl) (by kernel_rfl) (fun _ _ _ h => h) HF.out (by kernel_rfl) ?_ rfl rfl ?_ ?_
  rotate_left
  · intro w' hF; clear hF; go_simp; try rfl
  rotate_left
  · simp only [Act.put]; exact rfl
  refine Calm.one (i := 58) (l' := #[true, true, true, true, true, true, true, true, true, true, true, true, true, true, true, true, true, true, true, true, true, true, true, true, true, true, true, true, true, true, true, true, true, true, true, true, true, true, true, true, true, true, true, true, true, true, true, true, true, true, true, true, true, true, true, true, true, true, true, true, true, false, false, false, false, false, false, false, false]) (by kernel_rfl) rfl (by kernel_rfl) rfl fun K hK => ?_
  go_simp
  refine (itimes_any _ (sg b0 (val xs)) c _ HF.out.2.1.int (SzI.len SX.out (by decide)) HL.out HH.out).mono ?_
  rintro e u19 ⟨v19, rfl, n, hb⟩
  try replace BX := hide (BX.out.step hb)
  have T11 := hide n
  clear n
  have HF' := hide (And.intro (HF.out.1.trans ((hb).mono HF.out.1.size)) (And.intro (HF.out.2.1.step (hb)) (And.intro (HF.out.2.2.1.step (hb)) (And.intro (HF.out.2.2.2.1.step (hb)) (HF.out.2.2.2.2.step (hb))))))
  refine hK _ _ (fun _ => HF'.out) ?_
  clear hK K HF hb
  have HF := hide HF'.out
  clear HF'
  refine Calm.one (i := 61) (l' := #[true, true, true, true, true, true, true, true, true, true, true, true, true, true, true, true, true, true, true, true, true, true, true, true, true, true, true, true, true, true, true, true, true, true, true, true, true, true, true, true, true, true, true, true, true, true, true, true, true, true, true, true, true, true, true, true, true, true, true, true, true, true, false, false, false, false, false, false, false]) (by kernel_rfl) rfl (by kernel_rfl) rfl fun K hK => ?_
  go_simp
  refine (rof_any c _ HL.out HH.out).mono ?_
  rintro e u20 ⟨v20, rfl, n, hb⟩
  try replace BX := hide (BX.out.step hb)
  replace T11 := hide (T11.out.below hb)
  have T12 := hide n
  clear n
  have HF' := hide (And.intro (HF.out.1.trans ((hb).mono HF.out.1.size)) (And.intro (HF.out.2.1.step (hb)) (And.intro (HF.out.2.2.1.step (hb)) (And.intro (HF.out.2.2.2.1.step (hb)) (HF.out.2.2.2.2.step (hb))))))
  refine hK _ _ (fun _ => HF'.out) ?_
  clear hK K HF hb
  have HF := hide HF'.out
  clear HF'
  refine Calm.one (i := 62) (l' := #[true, true, true, true, true, true, true, true, true, true, true, true, true, true, true, true, true, true, true, true, true, true, true, true, true, true, true, true, true, true, true, true, true, true, true, true, true, true, true, true, true, true, true, true, true, true, true, true, true, true, true, true, true, true, true, true, true, true, true, true, true, true, true, false, false, false, false, false, false]) (by kernel_rfl) rfl (by kernel_rfl) rfl fun K hK => ?_
  go_simp
  refine (rmul2_any _ _ (sg b0 (val xs)) c _ HF.out.2.2.1.int T12.out (SzI.dlen SX.out (by decide)) (SzI.dlen SC.out (by decide))).mono ?_
  rintro e u21 ⟨v21, rfl, n, hb⟩
  try replace BX := hide (BX.out.step hb)
  replace T11 := hide (T11.out.below hb)
  clear T12
  have T13 := hide n
  clear n
  have HF' := hide (And.intro (HF.out.1.trans ((hb).mono HF.out.1.size)) (And.intro (HF.out.2.1.step (hb)) (And.intro (HF.out.2.2.1.step (hb)) (And.intro (HF.out.2.2.2.1.step (hb)) (HF.out.2.2.2.2.step (hb))))))
  refine hK _ _ (fun _ => HF'.out) ?_
  clear hK K HF hb
  have HF := hide HF'.out
  clear HF'
  refine Calm.one (i := 63) (l' := #[true, true, true, true, true, true, true, true, true, true, true, true, true, true, true, true, true, true, true, true, true, true, true, true, true, true, true, true, true, true, true, true, true, true, true, true, true, true, true, true, true, true, true, true, true, true, true, true, true, true, true, true, true, true, true, true, true, true, true, true, true, true, true, true, false, false, false, false, false]) (by kernel_rfl) rfl (by kernel_rfl) rfl fun K hK => ?_
  go_simp
  refine (is_yes _ _ ((sg b0 (val xs)) * c) _ T11.out T13.out (SzI.len (SzI.mul SX.out SC.out) (by decide)) (Nat.le_trans (SzI.dlen (SzI.mul SX.out SC.out) (by decide)) (by decide))).mono ?_
  rintro e u22 ⟨rfl, hb⟩
  try replace BX := hide (BX.out.step hb)
  clear T11
  clear T13
  have HF' := hide (And.intro (HF.out.1.trans ((hb).mono HF.out.1.size)) (And.intro (HF.out.2.1.step (hb)) (And.intro (HF.out.2.2.1.step (hb)) (And.intro (HF.out.2.2.2.1.step (hb)) (HF.out.2.2.2.2.step (hb))))))
  refine hK _ _ (fun _ => HF'.out) ?_
  clear hK K HF hb
  have HF := hide HF'.out
  clear HF'
  refine Calm.take (i := 64) (v := ?_) (a' := ?_) (l' := #[true, true, true, true, true, true, true, true, true, true, true, true, true, true, true, true, true, true, true, true, true, true, true, true, true, true, true, true, true, true, true, true, true, true, true, true, true, true, true, true, true, true, true, true, true, true, true, true, true, true, true, true, true, true, true, true, true, true, true, true, true, true, true, true, true, false, false, false, false]) (d := some 91) rfl (by kernel_rfl) (by kernel_rfl) (by kernel_rfl) (by kernel_rfl) (fun _ _ _ h => h) HF.out rfl ?_ rfl rfl ?_ ?_
  rotate_left
  · intro w' hF; clear hF; go_simp; try rfl
  rotate_left
  · simp only [Act.put]; exact rfl
  refine Calm.take (i := 65) (v := ?_) (a' := ?_) (l' := #[true, true, true, true, true, true, true, true, true, true, true, true, true, true, true, true, true, true, true, true, true, true, true, true, true, true, true, true, true, true, true, true, true, true, true, true, true, true, true, true, true, true, true, true, true, true, true, true, true, true, true, true, true, true, true, true, true, true, true, true, true, true, true, true, true, true, false, false, false]) (d := some 92) rfl (by kernel_rfl) (by kernel_rfl) (by kernel_rfl) (by kernel_rfl) (fun _ _ _ h => h) HF.out rfl ?_ rfl rfl ?_ ?_
  rotate_left
  · intro w' hF; clear hF; go_simp; try rfl
  rotate_left
  · simp only [Act.put]; exact rfl
  refine Calm.one (i := 66) (l' := #[true, true, true, true, true, true, true, true, true, true, true, true, true, true, true, true, true, true, true, true, true, true, true, true, true, true, true, true, true, true, true, true, true, true, true, true, true, true, true, true, true, true, true, true, true, true, true, true, true, true, true, true, true, true, true, true, true, true, true, true, true, true, true, true, true, true, true, false, false]) (by kernel_rfl) rfl (by kernel_rfl) rfl fun K hK => ?_
  go_simp
  refine (live_any _).mono ?_
  rintro e u23 ⟨rfl, hb⟩
  try replace BX := hide (BX.out.step hb)
  have HF' := hide (And.intro (HF.out.1.trans ((hb).mono HF.out.1.size)) (And.intro (HF.out.2.1.step (hb)) (And.intro (HF.out.2.2.1.step (hb)) (And.intro (HF.out.2.2.2.1.step (hb)) (HF.out.2.2.2.2.step (hb))))))
  refine hK _ _ (fun _ => HF'.out) ?_
  clear hK K HF hb
  have HF := hide HF'.out
  clear HF'
  refine Calm.take (i := 67) (v := ?_) (a' := ?_) (l' := #[true, true, true, true, true, true, true, true, true, true, true, true, true, true, true, true, true, true, true, true, true, true, true, true, true, true, true, true, true, true, true, true, true, true, true, true, true, true, true, true, true, true, true, true, true, true, true, true, true, true, true, true, true, true, true, true, true, true, true, true, true, true, true, true, true, true, true, true, false]) (d := some 94) rfl (by kernel_rfl) (by kernel_rfl) (by kernel_rfl) (by kernel_rfl) (fun _ _ _ h => h) HF.out rfl ?_ rfl rfl ?_ ?_
  rotate_left
  · intro w' hF; clear hF; go_simp; try rfl
  rotate_left
  · simp only [Act.put]; exact rfl
  refine Calm.take (i := 68) (v := ?_) (a' := ?_) (l' := #[true, true, true, true, true, true, true, true, true, true, true, true, true, true, true, true, true, true, true, true, true, true, true, true, true, true, true, true, true, true, true, true, true, true, true, true, true, true, true, true, true, true, true, true, true, true, true, true, true, true, true, true, true, true, true, true, true, true, true, true, true, true, true, true, true, true, true, true, true]) (d := some 6) rfl (by kernel_rfl) (by kernel_rfl) (by kernel_rfl) (by kernel_rfl) (fun _ _ _ h => h) HF.out rfl ?_ rfl rfl ?_ ?_
  rotate_left
  · intro w' hF; clear hF; go_simp; try rfl
  rotate_left
  · simp only [Act.put]; exact rfl
  refine Calm.done (by kernel_rfl) ?_
  go_wp2
  go_ret
  exact ⟨rfl, HF.out.1⟩
end Go.Proofs.Ytafmpcfnkgiheaa
