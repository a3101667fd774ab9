/- swagelaw02.IntegerRing answers true at all numbers, and turns nothing that was there. -/
import Derived.Test.YtafmpcfnkgiheacIVar
import Derived.Deep.Cut
namespace Go.Proofs.Ytafmpcfnkgiheac
open Go.RowKit

set_option maxRecDepth 100000 in
set_option maxHeartbeats 20000000 in
theorem iring_walk (b0 b1 b2 : Bool) (a0 a1 a2 : Option Addr) (c0 c1 c2 : Nat) (xs ys zs : List Nat) (w : World) (h0 : Nums w (.slice a0 xs.length c0) xs) (h1 : Nums w (.slice a1 ys.length c1) ys) (h2 : Nums w (.slice a2 zs.length c2) zs) :
    Calls Try.prog 3 #[.agg #[.bool b0, .slice a0 xs.length c0], .agg #[.bool b1, .slice a1 ys.length c1], .agg #[.bool b2, .slice a2 zs.length c2]] w fun e w' => e = .returned (.bool true) ∧ Below w.heap.size w w' := by
  have hm0 := nums_len h0
  have hm1 := nums_len h1
  have hm2 := nums_len h2
  have HM := hide (And.intro hm0 (And.intro hm1 hm2))
  unfold maxLen at hm0 hm1 hm2
  have HN0 := hide h0
  have HN1 := hide h1
  have HN2 := hide h2
  clear h0 h1 h2
  have HE := hide (nboxes3 24 w (.bool b0) (.slice a0 xs.length c0) (.bool b1) (.slice a1 ys.length c1) (.bool b2) (.slice a2 zs.length c2))
  have HB := hide (HE.out.2.2.2)
  have P0 := hide (HE.out.1)
  have P1 := hide (HE.out.2.1)
  have P2 := hide (HE.out.2.2.1)
  replace HN0 := hide (HN0.out.below HE.out.2.2.2)
  replace HN1 := hide (HN1.out.below HE.out.2.2.2)
  replace HN2 := hide (HN2.out.below HE.out.2.2.2)
  clear HE
  go_enter Try.func3, Try.ntmps3
  go_wp2_with fail
  refine (live_any _).mono ?_
  rintro e w1 ⟨rfl, hb⟩
  replace HB := hide (HB.out.trans ((hb).mono HB.out.size))
  replace P0 := hide (P0.out.step (hb))
  replace P1 := hide (P1.out.step (hb))
  replace P2 := hide (P2.out.step (hb))
  replace HN0 := hide (HN0.out.below (hb))
  replace HN1 := hide (HN1.out.below (hb))
  replace HN2 := hide (HN2.out.below (hb))
  have p00 := P0.out.cell0
  have p01 := P0.out.cell1
  have p10 := P1.out.cell0
  have p11 := P1.out.cell1
  have p20 := P2.out.cell0
  have p21 := P2.out.cell1
  clear hb
  go_wp2_with fail
  refine (long_any _ [xs.length, ys.length, zs.length] _ (lens_lit _ _ (by simp [maxLen]) (by
    intro i hi
    match i, hi with
    | 0, _ => exact ⟨a0, c0, by simp, HM.out.1⟩
    | 1, _ => exact ⟨a1, c1, by simp, HM.out.2.1⟩
    | 2, _ => exact ⟨a2, c2, by simp, HM.out.2.2⟩))).mono ?_
  rintro e w2 ⟨he, hb⟩
  clear p00 p01 p10 p11 p20 p21
  have hb' := (below_alloc w1 _).trans (hb.mono (by simp))
  replace HB := hide (HB.out.trans ((hb').mono HB.out.size))
  replace P0 := hide (P0.out.step (hb'))
  replace P1 := hide (P1.out.step (hb'))
  replace P2 := hide (P2.out.step (hb'))
  replace HN0 := hide (HN0.out.below (hb'))
  replace HN1 := hide (HN1.out.below (hb'))
  replace HN2 := hide (HN2.out.below (hb'))
  clear hb hb'
  cases hq : [xs.length, ys.length, zs.length].any (fun m => decide (60 < m)) with
  | true =>
    rw [hq] at he
    subst he
    clear hq
    go_wp2
    go_ret
    exact ⟨rfl, HB.out⟩
  | false =>
  rw [hq] at he
  subst he
  obtain ⟨g0, g1, g2⟩ : xs.length ≤ 60 ∧ ys.length ≤ 60 ∧ zs.length ≤ 60 := by
    simp at hq; omega
  clear hq
  have SX : Hid (SzI 60 (sg b0 (val xs))) := SzI.of HN0.out.ok g0
  have SY : Hid (SzI 60 (sg b1 (val ys))) := SzI.of HN1.out.ok g1
  have SZ : Hid (SzI 60 (sg b2 (val zs))) := SzI.of HN2.out.ok g2
  have G := hide (And.intro g0 (And.intro g1 g2))
  clear g0 g1 g2
  have p00 := P0.out.cell0
  have p01 := P0.out.cell1
  have p10 := P1.out.cell0
  have p11 := P1.out.cell1
  have p20 := P2.out.cell0
  have p21 := P2.out.cell1
  go_wp2_with fail
  refine (make_any b0 _ xs _ HN0.out (by have := G.out; omega)).mono ?_
  rintro e q0 ⟨v, rfl, ⟨sx, nx, mx, kx, rfl, hn, he, h0⟩, hb⟩
  clear p00 p01 p10 p11 p20 p21
  replace HB := hide (HB.out.trans ((hb).mono HB.out.size))
  replace P0 := hide (P0.out.step (hb))
  replace P1 := hide (P1.out.step (hb))
  replace P2 := hide (P2.out.step (hb))
  replace HN0 := hide (HN0.out.below (hb))
  replace HN1 := hide (HN1.out.below (hb))
  replace HN2 := hide (HN2.out.below (hb))
  have hI : IntAt q0 (.agg #[.bool sx, .slice mx (lim nx).length kx]) (sg b0 (val xs)) := ⟨sx, nx, mx, kx, rfl, hn, he, h0⟩
  replace HB := hide (HB.out.trans ((below_alloc q0 (.cells #[.bool sx, .slice mx (lim nx).length kx] 28)).mono HB.out.size))
  replace P0 := hide (P0.out.step (below_alloc q0 (.cells #[.bool sx, .slice mx (lim nx).length kx] 28)))
  replace P1 := hide (P1.out.step (below_alloc q0 (.cells #[.bool sx, .slice mx (lim nx).length kx] 28)))
  replace P2 := hide (P2.out.step (below_alloc q0 (.cells #[.bool sx, .slice mx (lim nx).length kx] 28)))
  replace HN0 := hide (HN0.out.below (below_alloc q0 (.cells #[.bool sx, .slice mx (lim nx).length kx] 28)))
  replace HN1 := hide (HN1.out.below (below_alloc q0 (.cells #[.bool sx, .slice mx (lim nx).length kx] 28)))
  replace HN2 := hide (HN2.out.below (below_alloc q0 (.cells #[.bool sx, .slice mx (lim nx).length kx] 28)))
  have Vx := hide (hI.var)
  clear hb hn he h0 hI
  have p00 := P0.out.cell0
  have p01 := P0.out.cell1
  have p10 := P1.out.cell0
  have p11 := P1.out.cell1
  have p20 := P2.out.cell0
  have p21 := P2.out.cell1
  go_wp2_with fail
  refine (make_any b1 _ ys _ HN1.out (by have := G.out; omega)).mono ?_
  rintro e q1 ⟨v, rfl, ⟨sy, ny, my, ky, rfl, hn, he, h0⟩, hb⟩
  clear p00 p01 p10 p11 p20 p21
  replace HB := hide (HB.out.trans ((hb).mono HB.out.size))
  replace P0 := hide (P0.out.step (hb))
  replace P1 := hide (P1.out.step (hb))
  replace P2 := hide (P2.out.step (hb))
  replace HN0 := hide (HN0.out.below (hb))
  replace HN1 := hide (HN1.out.below (hb))
  replace HN2 := hide (HN2.out.below (hb))
  replace Vx := hide (Vx.out.step (hb))
  have hI : IntAt q1 (.agg #[.bool sy, .slice my (lim ny).length ky]) (sg b1 (val ys)) := ⟨sy, ny, my, ky, rfl, hn, he, h0⟩
  replace HB := hide (HB.out.trans ((below_alloc q1 (.cells #[.bool sy, .slice my (lim ny).length ky] 28)).mono HB.out.size))
  replace P0 := hide (P0.out.step (below_alloc q1 (.cells #[.bool sy, .slice my (lim ny).length ky] 28)))
  replace P1 := hide (P1.out.step (below_alloc q1 (.cells #[.bool sy, .slice my (lim ny).length ky] 28)))
  replace P2 := hide (P2.out.step (below_alloc q1 (.cells #[.bool sy, .slice my (lim ny).length ky] 28)))
  replace HN0 := hide (HN0.out.below (below_alloc q1 (.cells #[.bool sy, .slice my (lim ny).length ky] 28)))
  replace HN1 := hide (HN1.out.below (below_alloc q1 (.cells #[.bool sy, .slice my (lim ny).length ky] 28)))
  replace HN2 := hide (HN2.out.below (below_alloc q1 (.cells #[.bool sy, .slice my (lim ny).length ky] 28)))
  replace Vx := hide (Vx.out.step (below_alloc q1 (.cells #[.bool sy, .slice my (lim ny).length ky] 28)))
  have Vy := hide (hI.var)
  clear hb hn he h0 hI
  have p00 := P0.out.cell0
  have p01 := P0.out.cell1
  have p10 := P1.out.cell0
  have p11 := P1.out.cell1
  have p20 := P2.out.cell0
  have p21 := P2.out.cell1
  go_wp2_with fail
  refine (make_any b2 _ zs _ HN2.out (by have := G.out; omega)).mono ?_
  rintro e q2 ⟨v, rfl, ⟨sz, nz, mz, kz, rfl, hn, he, h0⟩, hb⟩
  clear p00 p01 p10 p11 p20 p21
  replace HB := hide (HB.out.trans ((hb).mono HB.out.size))
  replace P0 := hide (P0.out.step (hb))
  replace P1 := hide (P1.out.step (hb))
  replace P2 := hide (P2.out.step (hb))
  replace HN0 := hide (HN0.out.below (hb))
  replace HN1 := hide (HN1.out.below (hb))
  replace HN2 := hide (HN2.out.below (hb))
  replace Vx := hide (Vx.out.step (hb))
  replace Vy := hide (Vy.out.step (hb))
  have hI : IntAt q2 (.agg #[.bool sz, .slice mz (lim nz).length kz]) (sg b2 (val zs)) := ⟨sz, nz, mz, kz, rfl, hn, he, h0⟩
  replace HB := hide (HB.out.trans ((below_alloc q2 (.cells #[.bool sz, .slice mz (lim nz).length kz] 28)).mono HB.out.size))
  replace P0 := hide (P0.out.step (below_alloc q2 (.cells #[.bool sz, .slice mz (lim nz).length kz] 28)))
  replace P1 := hide (P1.out.step (below_alloc q2 (.cells #[.bool sz, .slice mz (lim nz).length kz] 28)))
  replace P2 := hide (P2.out.step (below_alloc q2 (.cells #[.bool sz, .slice mz (lim nz).length kz] 28)))
  replace HN0 := hide (HN0.out.below (below_alloc q2 (.cells #[.bool sz, .slice mz (lim nz).length kz] 28)))
  replace HN1 := hide (HN1.out.below (below_alloc q2 (.cells #[.bool sz, .slice mz (lim nz).length kz] 28)))
  replace HN2 := hide (HN2.out.below (below_alloc q2 (.cells #[.bool sz, .slice mz (lim nz).length kz] 28)))
  replace Vx := hide (Vx.out.step (below_alloc q2 (.cells #[.bool sz, .slice mz (lim nz).length kz] 28)))
  replace Vy := hide (Vy.out.step (below_alloc q2 (.cells #[.bool sz, .slice mz (lim nz).length kz] 28)))
  have Vz := hide (hI.var)
  clear hb hn he h0 hI
  clear P0
  clear P1
  clear P2
  clear HN0
  clear HN1
  clear HN2
  clear G
  go_wp2_with fail
  generalize q0.heap.size = gx at *
  generalize q1.heap.size = gy at *
  generalize hgz : q2.heap.size = gz at *
  generalize q2.alloc (.cells #[.bool sz, .slice mz (lim nz).length kz] 28) = w8 at *
  clear hgz
  generalize (lim nx).length = lx at *
  generalize (lim ny).length = ly at *
  generalize (lim nz).length = lz at *
  go_cut [10] from 13 (fun p wx => ∃ gs ss ms ls ks, p = .pointer (some ⟨gs, 0, none⟩) ∧ Below w.heap.size w wx ∧ Var wx gx sx mx lx kx (sg b0 (val xs)) ∧ Var wx gy sy my ly ky (sg b1 (val ys)) ∧ Var wx gz sz mz lz kz (sg b2 (val zs)) ∧ Var wx gs ss ms ls ks (((sg b0 (val xs)) + (sg b1 (val ys))) + (sg b2 (val zs))))
  case first =>
    refine wp_calm (fun w' => Below w.heap.size w w' ∧ Var w' gx sx mx lx kx (sg b0 (val xs)) ∧ Var w' gy sy my ly ky (sg b1 (val ys)) ∧ Var w' gz sz mz lz kz (sg b2 (val zs))) (fun j => j != 6) 7 #[false, false, false, false, false, false, false] (by kernel_rfl) rfl rfl ?_
    have HF := hide (And.intro (HB.out.drew) (And.intro (Vx.out.drew) (And.intro (Vy.out.drew) (Vz.out.drew))))
    generalize w8.drew = w8d at HF ⊢
    refine Calm.take (i := 0) (v := ?_) (a' := ?_) (l' := #[true, false, false, false, false, false, false]) (d := some 35) rfl (by kernel_rfl) (by kernel_rfl) (by kernel_rfl) (by kernel_rfl) (fun _ _ _ h => h) HF.out rfl ?_ rfl rfl ?_ ?_
    rotate_left
    · intro w' hF; have f10 := hF.2.1.box.cell0; have f11 := hF.2.1.box.cell1; have f20 := hF.2.2.1.box.cell0; have f21 := hF.2.2.1.box.cell1; have f30 := hF.2.2.2.box.cell0; have f31 := hF.2.2.2.box.cell1; clear hF; go_simp; try rfl
    rotate_left
    · simp only [Act.put]; exact rfl
    refine Calm.take (i := 1) (v := ?_) (a' := ?_) (l' := #[true, true, false, false, false, false, false]) (d := some 36) rfl (by kernel_rfl) (by kernel_rfl) (by kernel_rfl) (by kernel_rfl) (fun _ _ _ h => h) HF.out rfl ?_ rfl rfl ?_ ?_
    rotate_left
    · intro w' hF; have f10 := hF.2.1.box.cell0; have f11 := hF.2.1.box.cell1; have f20 := hF.2.2.1.box.cell0; have f21 := hF.2.2.1.box.cell1; have f30 := hF.2.2.2.box.cell0; have f31 := hF.2.2.2.box.cell1; clear hF; go_simp; try rfl
    rotate_left
    · simp only [Act.put]; exact rfl
    refine Calm.take (i := 3) (v := ?_) (a' := ?_) (l' := #[true, true, false, true, false, false, false]) (d := some 38) rfl (by kernel_rfl) (by kernel_rfl) (by kernel_rfl) (by kernel_rfl) (fun _ _ _ h => h) HF.out rfl ?_ rfl rfl ?_ ?_
    rotate_left
    · intro w' hF; have f10 := hF.2.1.box.cell0; have f11 := hF.2.1.box.cell1; have f20 := hF.2.2.1.box.cell0; have f21 := hF.2.2.1.box.cell1; have f30 := hF.2.2.2.box.cell0; have f31 := hF.2.2.2.box.cell1; clear hF; go_simp; try rfl
    rotate_left
    · simp only [Act.put]; exact rfl
    refine Calm.two (i := 2) (j := 5) (l := #[true, true, true, true, false, false, false]) (l' := #[true, true, false, true, false, true, false]) (by kernel_rfl) rfl rfl rfl rfl rfl rfl (fun K hK => ?_) (fun K hK => ?_)
    · go_simp
      refine (iadd_any _ _ (sg b0 (val xs)) (sg b1 (val ys)) _ HF.out.2.1.int HF.out.2.2.1.int (SzI.len SX.out (by decide)) (SzI.len SY.out (by decide))).mono ?_
      rintro e u0 ⟨v0, rfl, n, hb⟩
      try replace BX := hide (BX.out.step hb)
      have T1 := hide n
      clear n
      have HF' := hide (And.intro (HF.out.1.trans ((hb).mono HF.out.1.size)) (And.intro (HF.out.2.1.step (hb)) (And.intro (HF.out.2.2.1.step (hb)) (HF.out.2.2.2.step (hb)))))
      refine hK _ _ (fun _ => HF'.out) ?_
      clear hK K HF hb
      have HF := hide HF'.out
      clear HF'
      refine Calm.two (i := 4) (j := 5) (l := #[true, true, true, true, true, false, false]) (l' := #[true, true, true, true, false, true, false]) (by kernel_rfl) rfl rfl rfl rfl rfl rfl (fun K hK => ?_) (fun K hK => ?_)
      · go_simp
        refine (iadd_any _ _ ((sg b0 (val xs)) + (sg b1 (val ys))) (sg b2 (val zs)) _ T1.out HF.out.2.2.2.int (SzI.len (SzI.add SX.out SY.out) (by decide)) (SzI.len SZ.out (by decide))).mono ?_
        rintro e us ⟨v, rfl, ⟨ss, ns, ms, ks, rfl, hn, he, h0⟩, hb⟩
        have Is : Hid (IntAt us (.agg #[.bool ss, .slice ms (lim ns).length ks]) (((sg b0 (val xs)) + (sg b1 (val ys))) + (sg b2 (val zs)))) := ⟨ss, ns, ms, ks, rfl, hn, he, h0⟩
        clear hn he h0
        try replace BX := hide (BX.out.step hb)
        clear T1
        have HF' := hide (And.intro (HF.out.1.trans ((hb).mono HF.out.1.size)) (And.intro (HF.out.2.1.step (hb)) (And.intro (HF.out.2.2.1.step (hb)) (HF.out.2.2.2.step (hb)))))
        refine hK _ _ (fun _ => HF'.out) ?_
        clear hK K HF hb
        have HF := hide HF'.out
        clear HF'
        refine Calm.one (i := 5) (l' := #[true, true, true, true, true, true, false]) (by kernel_rfl) rfl rfl rfl fun K hK => ?_
        go_simp
        have al := below_alloc us (.cells #[.bool false, .slice none 0 0] 28)
        have HF' := hide (And.intro (HF.out.1.trans ((al).mono HF.out.1.size)) (And.intro (HF.out.2.1.step (al)) (And.intro (HF.out.2.2.1.step (al)) (HF.out.2.2.2.step (al)))))
        have BX := hide (Box.new us (.bool false) (.slice none 0 0))
        have GE := hide HF.out.1.size
        have NE1 := hide (Nat.ne_of_gt HF.out.2.1.box.lt)
        have NE2 := hide (Nat.ne_of_gt HF.out.2.2.1.box.lt)
        have NE3 := hide (Nat.ne_of_gt HF.out.2.2.2.box.lt)
        try replace T1 := hide (T1.out.below al)
        try replace Is := hide (Is.out.below al)
        refine hK _ _ (fun _ => HF'.out) ?_
        clear hK K HF al
        have HF := hide HF'.out
        clear HF'
        generalize us.alloc (.cells #[.bool false, .slice none 0 0] 28) = wz at *
        refine Calm.one (i := 6) (l' := #[true, true, true, true, true, true, true]) (by kernel_rfl) rfl rfl rfl fun K hK => ?_
        have hc0 := BX.out.cell0
        have hc1 := BX.out.cell1
        have hf0 := BX.out.free 0
        have hf1 := BX.out.free 1
        go_simp
        refine hK _ _ (fun h => absurd h (by decide)) ?_
        clear hK K hc0 hc1 hf0 hf1
        refine Calm.done (by kernel_rfl) ?_
        go_wp2
        go_meet
        case rel =>
          refine ⟨_, ss, ms, _, ks, rfl, (HF.out.1.setCell (p := ⟨_, 0, none⟩) GE.out _).setCell (p := ⟨_, 1, none⟩) GE.out _, HF.out.2.1.keep BX.out (by simp) (by simp) NE1.out _ _, HF.out.2.2.1.keep BX.out (by simp) (by simp) NE2.out _ _, HF.out.2.2.2.keep BX.out (by simp) (by simp) NE3.out _ _, ⟨(BX.out.set0 _).set1 _, Is.out.keep (BX.out.keeps (by simp) (by simp) _ _)⟩⟩
      · go_simp
        have al := below_alloc u0 (.cells #[.bool false, .slice none 0 0] 28)
        have HF' := hide (And.intro (HF.out.1.trans ((al).mono HF.out.1.size)) (And.intro (HF.out.2.1.step (al)) (And.intro (HF.out.2.2.1.step (al)) (HF.out.2.2.2.step (al)))))
        have BX := hide (Box.new u0 (.bool false) (.slice none 0 0))
        have GE := hide HF.out.1.size
        have NE1 := hide (Nat.ne_of_gt HF.out.2.1.box.lt)
        have NE2 := hide (Nat.ne_of_gt HF.out.2.2.1.box.lt)
        have NE3 := hide (Nat.ne_of_gt HF.out.2.2.2.box.lt)
        try replace T1 := hide (T1.out.below al)
        try replace Is := hide (Is.out.below al)
        refine hK _ _ (fun _ => HF'.out) ?_
        clear hK K HF al
        have HF := hide HF'.out
        clear HF'
        generalize u0.alloc (.cells #[.bool false, .slice none 0 0] 28) = wz at *
        refine Calm.one (i := 4) (l' := #[true, true, true, true, true, true, false]) (by kernel_rfl) rfl rfl rfl fun K hK => ?_
        go_simp
        refine (iadd_any _ _ ((sg b0 (val xs)) + (sg b1 (val ys))) (sg b2 (val zs)) _ T1.out HF.out.2.2.2.int (SzI.len (SzI.add SX.out SY.out) (by decide)) (SzI.len SZ.out (by decide))).mono ?_
        rintro e us ⟨v, rfl, ⟨ss, ns, ms, ks, rfl, hn, he, h0⟩, hb⟩
        have Is : Hid (IntAt us (.agg #[.bool ss, .slice ms (lim ns).length ks]) (((sg b0 (val xs)) + (sg b1 (val ys))) + (sg b2 (val zs)))) := ⟨ss, ns, ms, ks, rfl, hn, he, h0⟩
        clear hn he h0
        try replace BX := hide (BX.out.step hb)
        clear T1
        have HF' := hide (And.intro (HF.out.1.trans ((hb).mono HF.out.1.size)) (And.intro (HF.out.2.1.step (hb)) (And.intro (HF.out.2.2.1.step (hb)) (HF.out.2.2.2.step (hb)))))
        refine hK _ _ (fun _ => HF'.out) ?_
        clear hK K HF hb
        have HF := hide HF'.out
        clear HF'
        refine Calm.one (i := 6) (l' := #[true, true, true, true, true, true, true]) (by kernel_rfl) rfl rfl rfl fun K hK => ?_
        have hc0 := BX.out.cell0
        have hc1 := BX.out.cell1
        have hf0 := BX.out.free 0
        have hf1 := BX.out.free 1
        go_simp
        refine hK _ _ (fun h => absurd h (by decide)) ?_
        clear hK K hc0 hc1 hf0 hf1
        refine Calm.done (by kernel_rfl) ?_
        go_wp2
        go_meet
        case rel =>
          refine ⟨_, ss, ms, _, ks, rfl, (HF.out.1.setCell (p := ⟨_, 0, none⟩) GE.out _).setCell (p := ⟨_, 1, none⟩) GE.out _, HF.out.2.1.keep BX.out (by simp) (by simp) NE1.out _ _, HF.out.2.2.1.keep BX.out (by simp) (by simp) NE2.out _ _, HF.out.2.2.2.keep BX.out (by simp) (by simp) NE3.out _ _, ⟨(BX.out.set0 _).set1 _, Is.out.keep (BX.out.keeps (by simp) (by simp) _ _)⟩⟩
    · go_simp
      have al := below_alloc w8d (.cells #[.bool false, .slice none 0 0] 28)
      have HF' := hide (And.intro (HF.out.1.trans ((al).mono HF.out.1.size)) (And.intro (HF.out.2.1.step (al)) (And.intro (HF.out.2.2.1.step (al)) (HF.out.2.2.2.step (al)))))
      have BX := hide (Box.new w8d (.bool false) (.slice none 0 0))
      have GE := hide HF.out.1.size
      have NE1 := hide (Nat.ne_of_gt HF.out.2.1.box.lt)
      have NE2 := hide (Nat.ne_of_gt HF.out.2.2.1.box.lt)
      have NE3 := hide (Nat.ne_of_gt HF.out.2.2.2.box.lt)
      try replace T1 := hide (T1.out.below al)
      try replace Is := hide (Is.out.below al)
      refine hK _ _ (fun _ => HF'.out) ?_
      clear hK K HF al
      have HF := hide HF'.out
      clear HF'
      generalize w8d.alloc (.cells #[.bool false, .slice none 0 0] 28) = wz at *
      refine Calm.one (i := 2) (l' := #[true, true, true, true, false, true, false]) (by kernel_rfl) rfl rfl rfl fun K hK => ?_
      go_simp
      refine (iadd_any _ _ (sg b0 (val xs)) (sg b1 (val ys)) _ HF.out.2.1.int HF.out.2.2.1.int (SzI.len SX.out (by decide)) (SzI.len SY.out (by decide))).mono ?_
      rintro e u0 ⟨v0, rfl, n, hb⟩
      try replace BX := hide (BX.out.step hb)
      have T1 := hide n
      clear n
      have HF' := hide (And.intro (HF.out.1.trans ((hb).mono HF.out.1.size)) (And.intro (HF.out.2.1.step (hb)) (And.intro (HF.out.2.2.1.step (hb)) (HF.out.2.2.2.step (hb)))))
      refine hK _ _ (fun _ => HF'.out) ?_
      clear hK K HF hb
      have HF := hide HF'.out
      clear HF'
      refine Calm.one (i := 4) (l' := #[true, true, true, true, true, true, false]) (by kernel_rfl) rfl rfl rfl fun K hK => ?_
      go_simp
      refine (iadd_any _ _ ((sg b0 (val xs)) + (sg b1 (val ys))) (sg b2 (val zs)) _ T1.out HF.out.2.2.2.int (SzI.len (SzI.add SX.out SY.out) (by decide)) (SzI.len SZ.out (by decide))).mono ?_
      rintro e us ⟨v, rfl, ⟨ss, ns, ms, ks, rfl, hn, he, h0⟩, hb⟩
      have Is : Hid (IntAt us (.agg #[.bool ss, .slice ms (lim ns).length ks]) (((sg b0 (val xs)) + (sg b1 (val ys))) + (sg b2 (val zs)))) := ⟨ss, ns, ms, ks, rfl, hn, he, h0⟩
      clear hn he h0
      try replace BX := hide (BX.out.step hb)
      clear T1
      have HF' := hide (And.intro (HF.out.1.trans ((hb).mono HF.out.1.size)) (And.intro (HF.out.2.1.step (hb)) (And.intro (HF.out.2.2.1.step (hb)) (HF.out.2.2.2.step (hb)))))
      refine hK _ _ (fun _ => HF'.out) ?_
      clear hK K HF hb
      have HF := hide HF'.out
      clear HF'
      refine Calm.one (i := 6) (l' := #[true, true, true, true, true, true, true]) (by kernel_rfl) rfl rfl rfl fun K hK => ?_
      have hc0 := BX.out.cell0
      have hc1 := BX.out.cell1
      have hf0 := BX.out.free 0
      have hf1 := BX.out.free 1
      go_simp
      refine hK _ _ (fun h => absurd h (by decide)) ?_
      clear hK K hc0 hc1 hf0 hf1
      refine Calm.done (by kernel_rfl) ?_
      go_wp2
      go_meet
      case rel =>
        refine ⟨_, ss, ms, _, ks, rfl, (HF.out.1.setCell (p := ⟨_, 0, none⟩) GE.out _).setCell (p := ⟨_, 1, none⟩) GE.out _, HF.out.2.1.keep BX.out (by simp) (by simp) NE1.out _ _, HF.out.2.2.1.keep BX.out (by simp) (by simp) NE2.out _ _, HF.out.2.2.2.keep BX.out (by simp) (by simp) NE3.out _ _, ⟨(BX.out.set0 _).set1 _, Is.out.keep (BX.out.keeps (by simp) (by simp) _ _)⟩⟩
  case rest =>
  obtain ⟨gs, ss, ms, ls, ks, rfl, hB, hx, hy, hz, hs⟩ := hcut
  clear HB Vx Vy Vz
  have HB := hide hB
  have Vx := hide hx
  have Vy := hide hy
  have Vz := hide hz
  have Vs := hide hs
  clear hB hx hy hz hs
  generalize hwc : wc = w9 at *
  clear hwc
  go_wp2_with fail
  go_cut [11] from 13 (fun p wx => ∃ gp sp mp lp kp, p = .pointer (some ⟨gp, 0, none⟩) ∧ Below w.heap.size w wx ∧ Var wx gx sx mx lx kx (sg b0 (val xs)) ∧ Var wx gy sy my ly ky (sg b1 (val ys)) ∧ Var wx gz sz mz lz kz (sg b2 (val zs)) ∧ Var wx gs ss ms ls ks (((sg b0 (val xs)) + (sg b1 (val ys))) + (sg b2 (val zs))) ∧ Var wx gp sp mp lp kp (((sg b0 (val xs)) * (sg b1 (val ys))) * (sg b2 (val zs))))
  case first =>
    refine wp_calm (fun w' => Below w.heap.size w w' ∧ Var w' gx sx mx lx kx (sg b0 (val xs)) ∧ Var w' gy sy my ly ky (sg b1 (val ys)) ∧ Var w' gz sz mz lz kz (sg b2 (val zs)) ∧ Var w' gs ss ms ls ks (((sg b0 (val xs)) + (sg b1 (val ys))) + (sg b2 (val zs)))) (fun j => j != 6) 7 #[false, false, false, false, false, false, false] (by kernel_rfl) rfl rfl ?_
    have HF := hide (And.intro (HB.out.drew) (And.intro (Vx.out.drew) (And.intro (Vy.out.drew) (And.intro (Vz.out.drew) (Vs.out.drew)))))
    generalize w9.drew = w9d at HF ⊢
    refine Calm.take (i := 0) (v := ?_) (a' := ?_) (l' := #[true, false, false, false, false, false, false]) (d := some 40) rfl (by kernel_rfl) (by kernel_rfl) (by kernel_rfl) (by kernel_rfl) (fun _ _ _ h => h) HF.out rfl ?_ rfl rfl ?_ ?_
    rotate_left
    · intro w' hF; have f10 := hF.2.1.box.cell0; have f11 := hF.2.1.box.cell1; have f20 := hF.2.2.1.box.cell0; have f21 := hF.2.2.1.box.cell1; have f30 := hF.2.2.2.1.box.cell0; have f31 := hF.2.2.2.1.box.cell1; have f40 := hF.2.2.2.2.box.cell0; have f41 := hF.2.2.2.2.box.cell1; clear hF; go_simp; try rfl
    rotate_left
    · simp only [Act.put]; exact rfl
    refine Calm.take (i := 1) (v := ?_) (a' := ?_) (l' := #[true, true, false, false, false, false, false]) (d := some 41) rfl (by kernel_rfl) (by kernel_rfl) (by kernel_rfl) (by kernel_rfl) (fun _ _ _ h => h) HF.out rfl ?_ rfl rfl ?_ ?_
    rotate_left
    · intro w' hF; have f10 := hF.2.1.box.cell0; have f11 := hF.2.1.box.cell1; have f20 := hF.2.2.1.box.cell0; have f21 := hF.2.2.1.box.cell1; have f30 := hF.2.2.2.1.box.cell0; have f31 := hF.2.2.2.1.box.cell1; have f40 := hF.2.2.2.2.box.cell0; have f41 := hF.2.2.2.2.box.cell1; clear hF; go_simp; try rfl
    rotate_left
    · simp only [Act.put]; exact rfl
    refine Calm.take (i := 3) (v := ?_) (a' := ?_) (l' := #[true, true, false, true, false, false, false]) (d := some 43) rfl (by kernel_rfl) (by kernel_rfl) (by kernel_rfl) (by kernel_rfl) (fun _ _ _ h => h) HF.out rfl ?_ rfl rfl ?_ ?_
    rotate_left
    · intro w' hF; have f10 := hF.2.1.box.cell0; have f11 := hF.2.1.box.cell1; have f20 := hF.2.2.1.box.cell0; have f21 := hF.2.2.1.box.cell1; have f30 := hF.2.2.2.1.box.cell0; have f31 := hF.2.2.2.1.box.cell1; have f40 := hF.2.2.2.2.box.cell0; have f41 := hF.2.2.2.2.box.cell1; clear hF; go_simp; try rfl
    rotate_left
    · simp only [Act.put]; exact rfl
    refine Calm.two (i := 2) (j := 5) (l := #[true, true, true, true, false, false, false]) (l' := #[true, true, false, true, false, true, false]) (by kernel_rfl) rfl rfl rfl rfl rfl rfl (fun K hK => ?_) (fun K hK => ?_)
    · go_simp
      refine (imul_any _ _ (sg b0 (val xs)) (sg b1 (val ys)) _ HF.out.2.1.int HF.out.2.2.1.int (SzI.len SX.out (by decide)) (SzI.len SY.out (by decide))).mono ?_
      rintro e u0 ⟨v0, rfl, n, hb⟩
      try replace BX := hide (BX.out.step hb)
      have T1 := hide n
      clear n
      have HF' := hide (And.intro (HF.out.1.trans ((hb).mono HF.out.1.size)) (And.intro (HF.out.2.1.step (hb)) (And.intro (HF.out.2.2.1.step (hb)) (And.intro (HF.out.2.2.2.1.step (hb)) (HF.out.2.2.2.2.step (hb))))))
      refine hK _ _ (fun _ => HF'.out) ?_
      clear hK K HF hb
      have HF := hide HF'.out
      clear HF'
      refine Calm.two (i := 4) (j := 5) (l := #[true, true, true, true, true, false, false]) (l' := #[true, true, true, true, false, true, false]) (by kernel_rfl) rfl rfl rfl rfl rfl rfl (fun K hK => ?_) (fun K hK => ?_)
      · go_simp
        refine (imul_any _ _ ((sg b0 (val xs)) * (sg b1 (val ys))) (sg b2 (val zs)) _ T1.out HF.out.2.2.2.1.int (SzI.len (SzI.mul SX.out SY.out) (by decide)) (SzI.len SZ.out (by decide))).mono ?_
        rintro e up ⟨v, rfl, ⟨sp, np, mp, kp, rfl, hn, he, h0⟩, hb⟩
        have Ip : Hid (IntAt up (.agg #[.bool sp, .slice mp (lim np).length kp]) (((sg b0 (val xs)) * (sg b1 (val ys))) * (sg b2 (val zs)))) := ⟨sp, np, mp, kp, rfl, hn, he, h0⟩
        clear hn he h0
        try replace BX := hide (BX.out.step hb)
        clear T1
        have HF' := hide (And.intro (HF.out.1.trans ((hb).mono HF.out.1.size)) (And.intro (HF.out.2.1.step (hb)) (And.intro (HF.out.2.2.1.step (hb)) (And.intro (HF.out.2.2.2.1.step (hb)) (HF.out.2.2.2.2.step (hb))))))
        refine hK _ _ (fun _ => HF'.out) ?_
        clear hK K HF hb
        have HF := hide HF'.out
        clear HF'
        refine Calm.one (i := 5) (l' := #[true, true, true, true, true, true, false]) (by kernel_rfl) rfl rfl rfl fun K hK => ?_
        go_simp
        have al := below_alloc up (.cells #[.bool false, .slice none 0 0] 28)
        have HF' := hide (And.intro (HF.out.1.trans ((al).mono HF.out.1.size)) (And.intro (HF.out.2.1.step (al)) (And.intro (HF.out.2.2.1.step (al)) (And.intro (HF.out.2.2.2.1.step (al)) (HF.out.2.2.2.2.step (al))))))
        have BX := hide (Box.new up (.bool false) (.slice none 0 0))
        have GE := hide HF.out.1.size
        have NE1 := hide (Nat.ne_of_gt HF.out.2.1.box.lt)
        have NE2 := hide (Nat.ne_of_gt HF.out.2.2.1.box.lt)
        have NE3 := hide (Nat.ne_of_gt HF.out.2.2.2.1.box.lt)
        have NE4 := hide (Nat.ne_of_gt HF.out.2.2.2.2.box.lt)
        try replace T1 := hide (T1.out.below al)
        try replace Ip := hide (Ip.out.below al)
        refine hK _ _ (fun _ => HF'.out) ?_
        clear hK K HF al
        have HF := hide HF'.out
        clear HF'
        generalize up.alloc (.cells #[.bool false, .slice none 0 0] 28) = wz at *
        refine Calm.one (i := 6) (l' := #[true, true, true, true, true, true, true]) (by kernel_rfl) rfl rfl rfl fun K hK => ?_
        have hc0 := BX.out.cell0
        have hc1 := BX.out.cell1
        have hf0 := BX.out.free 0
        have hf1 := BX.out.free 1
        go_simp
        refine hK _ _ (fun h => absurd h (by decide)) ?_
        clear hK K hc0 hc1 hf0 hf1
        refine Calm.done (by kernel_rfl) ?_
        go_wp2
        go_meet
        case rel =>
          refine ⟨_, sp, mp, _, kp, rfl, (HF.out.1.setCell (p := ⟨_, 0, none⟩) GE.out _).setCell (p := ⟨_, 1, none⟩) GE.out _, HF.out.2.1.keep BX.out (by simp) (by simp) NE1.out _ _, HF.out.2.2.1.keep BX.out (by simp) (by simp) NE2.out _ _, HF.out.2.2.2.1.keep BX.out (by simp) (by simp) NE3.out _ _, HF.out.2.2.2.2.keep BX.out (by simp) (by simp) NE4.out _ _, ⟨(BX.out.set0 _).set1 _, Ip.out.keep (BX.out.keeps (by simp) (by simp) _ _)⟩⟩
      · go_simp
        have al := below_alloc u0 (.cells #[.bool false, .slice none 0 0] 28)
        have HF' := hide (And.intro (HF.out.1.trans ((al).mono HF.out.1.size)) (And.intro (HF.out.2.1.step (al)) (And.intro (HF.out.2.2.1.step (al)) (And.intro (HF.out.2.2.2.1.step (al)) (HF.out.2.2.2.2.step (al))))))
        have BX := hide (Box.new u0 (.bool false) (.slice none 0 0))
        have GE := hide HF.out.1.size
        have NE1 := hide (Nat.ne_of_gt HF.out.2.1.box.lt)
        have NE2 := hide (Nat.ne_of_gt HF.out.2.2.1.box.lt)
        have NE3 := hide (Nat.ne_of_gt HF.out.2.2.2.1.box.lt)
        have NE4 := hide (Nat.ne_of_gt HF.out.2.2.2.2.box.lt)
        try replace T1 := hide (T1.out.below al)
        try replace Ip := hide (Ip.out.below al)
        refine hK _ _ (fun _ => HF'.out) ?_
        clear hK K HF al
        have HF := hide HF'.out
        clear HF'
        generalize u0.alloc (.cells #[.bool false, .slice none 0 0] 28) = wz at *
        refine Calm.one (i := 4) (l' := #[true, true, true, true, true, true, false]) (by kernel_rfl) rfl rfl rfl fun K hK => ?_
        go_simp
        refine (imul_any _ _ ((sg b0 (val xs)) * (sg b1 (val ys))) (sg b2 (val zs)) _ T1.out HF.out.2.2.2.1.int (SzI.len (SzI.mul SX.out SY.out) (by decide)) (SzI.len SZ.out (by decide))).mono ?_
        rintro e up ⟨v, rfl, ⟨sp, np, mp, kp, rfl, hn, he, h0⟩, hb⟩
        have Ip : Hid (IntAt up (.agg #[.bool sp, .slice mp (lim np).length kp]) (((sg b0 (val xs)) * (sg b1 (val ys))) * (sg b2 (val zs)))) := ⟨sp, np, mp, kp, rfl, hn, he, h0⟩
        clear hn he h0
        try replace BX := hide (BX.out.step hb)
        clear T1
        have HF' := hide (And.intro (HF.out.1.trans ((hb).mono HF.out.1.size)) (And.intro (HF.out.2.1.step (hb)) (And.intro (HF.out.2.2.1.step (hb)) (And.intro (HF.out.2.2.2.1.step (hb)) (HF.out.2.2.2.2.step (hb))))))
        refine hK _ _ (fun _ => HF'.out) ?_
        clear hK K HF hb
        have HF := hide HF'.out
        clear HF'
        refine Calm.one (i := 6) (l' := #[true, true, true, true, true, true, true]) (by kernel_rfl) rfl rfl rfl fun K hK => ?_
        have hc0 := BX.out.cell0
        have hc1 := BX.out.cell1
        have hf0 := BX.out.free 0
        have hf1 := BX.out.free 1
        go_simp
        refine hK _ _ (fun h => absurd h (by decide)) ?_
        clear hK K hc0 hc1 hf0 hf1
        refine Calm.done (by kernel_rfl) ?_
        go_wp2
        go_meet
        case rel =>
          refine ⟨_, sp, mp, _, kp, rfl, (HF.out.1.setCell (p := ⟨_, 0, none⟩) GE.out _).setCell (p := ⟨_, 1, none⟩) GE.out _, HF.out.2.1.keep BX.out (by simp) (by simp) NE1.out _ _, HF.out.2.2.1.keep BX.out (by simp) (by simp) NE2.out _ _, HF.out.2.2.2.1.keep BX.out (by simp) (by simp) NE3.out _ _, HF.out.2.2.2.2.keep BX.out (by simp) (by simp) NE4.out _ _, ⟨(BX.out.set0 _).set1 _, Ip.out.keep (BX.out.keeps (by simp) (by simp) _ _)⟩⟩
    · go_simp
      have al := below_alloc w9d (.cells #[.bool false, .slice none 0 0] 28)
      have HF' := hide (And.intro (HF.out.1.trans ((al).mono HF.out.1.size)) (And.intro (HF.out.2.1.step (al)) (And.intro (HF.out.2.2.1.step (al)) (And.intro (HF.out.2.2.2.1.step (al)) (HF.out.2.2.2.2.step (al))))))
      have BX := hide (Box.new w9d (.bool false) (.slice none 0 0))
      have GE := hide HF.out.1.size
      have NE1 := hide (Nat.ne_of_gt HF.out.2.1.box.lt)
      have NE2 := hide (Nat.ne_of_gt HF.out.2.2.1.box.lt)
      have NE3 := hide (Nat.ne_of_gt HF.out.2.2.2.1.box.lt)
      have NE4 := hide (Nat.ne_of_gt HF.out.2.2.2.2.box.lt)
      try replace T1 := hide (T1.out.below al)
      try replace Ip := hide (Ip.out.below al)
      refine hK _ _ (fun _ => HF'.out) ?_
      clear hK K HF al
      have HF := hide HF'.out
      clear HF'
      generalize w9d.alloc (.cells #[.bool false, .slice none 0 0] 28) = wz at *
      refine Calm.one (i := 2) (l' := #[true, true, true, true, false, true, false]) (by kernel_rfl) rfl rfl rfl fun K hK => ?_
      go_simp
      refine (imul_any _ _ (sg b0 (val xs)) (sg b1 (val ys)) _ HF.out.2.1.int HF.out.2.2.1.int (SzI.len SX.out (by decide)) (SzI.len SY.out (by decide))).mono ?_
      rintro e u0 ⟨v0, rfl, n, hb⟩
      try replace BX := hide (BX.out.step hb)
      have T1 := hide n
      clear n
      have HF' := hide (And.intro (HF.out.1.trans ((hb).mono HF.out.1.size)) (And.intro (HF.out.2.1.step (hb)) (And.intro (HF.out.2.2.1.step (hb)) (And.intro (HF.out.2.2.2.1.step (hb)) (HF.out.2.2.2.2.step (hb))))))
      refine hK _ _ (fun _ => HF'.out) ?_
      clear hK K HF hb
      have HF := hide HF'.out
      clear HF'
      refine Calm.one (i := 4) (l' := #[true, true, true, true, true, true, false]) (by kernel_rfl) rfl rfl rfl fun K hK => ?_
      go_simp
      refine (imul_any _ _ ((sg b0 (val xs)) * (sg b1 (val ys))) (sg b2 (val zs)) _ T1.out HF.out.2.2.2.1.int (SzI.len (SzI.mul SX.out SY.out) (by decide)) (SzI.len SZ.out (by decide))).mono ?_
      rintro e up ⟨v, rfl, ⟨sp, np, mp, kp, rfl, hn, he, h0⟩, hb⟩
      have Ip : Hid (IntAt up (.agg #[.bool sp, .slice mp (lim np).length kp]) (((sg b0 (val xs)) * (sg b1 (val ys))) * (sg b2 (val zs)))) := ⟨sp, np, mp, kp, rfl, hn, he, h0⟩
      clear hn he h0
      try replace BX := hide (BX.out.step hb)
      clear T1
      have HF' := hide (And.intro (HF.out.1.trans ((hb).mono HF.out.1.size)) (And.intro (HF.out.2.1.step (hb)) (And.intro (HF.out.2.2.1.step (hb)) (And.intro (HF.out.2.2.2.1.step (hb)) (HF.out.2.2.2.2.step (hb))))))
      refine hK _ _ (fun _ => HF'.out) ?_
      clear hK K HF hb
      have HF := hide HF'.out
      clear HF'
      refine Calm.one (i := 6) (l' := #[true, true, true, true, true, true, true]) (by kernel_rfl) rfl rfl rfl fun K hK => ?_
      have hc0 := BX.out.cell0
      have hc1 := BX.out.cell1
      have hf0 := BX.out.free 0
      have hf1 := BX.out.free 1
      go_simp
      refine hK _ _ (fun h => absurd h (by decide)) ?_
      clear hK K hc0 hc1 hf0 hf1
      refine Calm.done (by kernel_rfl) ?_
      go_wp2
      go_meet
      case rel =>
        refine ⟨_, sp, mp, _, kp, rfl, (HF.out.1.setCell (p := ⟨_, 0, none⟩) GE.out _).setCell (p := ⟨_, 1, none⟩) GE.out _, HF.out.2.1.keep BX.out (by simp) (by simp) NE1.out _ _, HF.out.2.2.1.keep BX.out (by simp) (by simp) NE2.out _ _, HF.out.2.2.2.1.keep BX.out (by simp) (by simp) NE3.out _ _, HF.out.2.2.2.2.keep BX.out (by simp) (by simp) NE4.out _ _, ⟨(BX.out.set0 _).set1 _, Ip.out.keep (BX.out.keeps (by simp) (by simp) _ _)⟩⟩
  case rest =>
  obtain ⟨gp, sp, mp, lp, kp, rfl, hB, hx, hy, hz, hs, hp⟩ := hcut
  clear HB Vx Vy Vz Vs
  have HB := hide hB
  have Vx := hide hx
  have Vy := hide hy
  have Vz := hide hz
  have Vs := hide hs
  have Vp := hide hp
  clear hB hx hy hz hs hp
  generalize hwc : wc = w10 at *
  clear hwc
  have z0 := Vz.out.box.cell0
  have z1 := Vz.out.box.cell1
  have x0 := Vx.out.box.cell0
  have x1 := Vx.out.box.cell1
  have y0 := Vy.out.box.cell0
  have y1 := Vy.out.box.cell1
  go_wp2_with fail
  clear z0 z1 x0 x1 y0 y1
  have HL := hide (ints_lit3 (t := 28) Vz.out.int Vx.out.int Vy.out.int)
  have al := below_alloc w10 (.cells #[.bool sz, .slice mz lz kz, .bool sx, .slice mx lx kx, .bool sy, .slice my ly ky] 28)
  replace HB := hide (HB.out.trans (al.mono HB.out.size))
  replace Vx := hide (Vx.out.step al)
  replace Vy := hide (Vy.out.step al)
  replace Vz := hide (Vz.out.step al)
  replace Vs := hide (Vs.out.step al)
  replace Vp := hide (Vp.out.step al)
  clear al
  generalize hgl : w10.heap.size = gl at *
  generalize w10.alloc (.cells #[.bool sz, .slice mz lz kz, .bool sx, .slice mx lx kx, .bool sy, .slice my ly ky] 28) = w11 at *
  clear hgl
  refine wp_calm (fun w' => Below w.heap.size w w' ∧ Var w' gx sx mx lx kx (sg b0 (val xs)) ∧ Var w' gy sy my ly ky (sg b1 (val ys)) ∧ Var w' gz sz mz lz kz (sg b2 (val zs)) ∧ Var w' gs ss ms ls ks (((sg b0 (val xs)) + (sg b1 (val ys))) + (sg b2 (val zs))) ∧ Var w' gp sp mp lp kp (((sg b0 (val xs)) * (sg b1 (val ys))) * (sg b2 (val zs))) ∧ Ints w' (.slice (some ⟨gl, 0, none⟩) 3 3) [(sg b2 (val zs)), (sg b0 (val xs)), (sg b1 (val ys))]) (fun _ => true) 32 #[false, false, false, false, false, false, false, false, false, false, false, false, false, false, false, false, false, false, false, false, false, false, false, false, false, false, false, false, false, false, false, false] (by kernel_rfl) rfl rfl ?_
  have HF := hide (And.intro (HB.out.drew) (And.intro (Vx.out.drew) (And.intro (Vy.out.drew) (And.intro (Vz.out.drew) (And.intro (Vs.out.drew) (And.intro (Vp.out.drew) (HL.out.drew)))))))
  generalize w11.drew = w11d at HF ⊢
  refine Calm.take (i := 0) (v := ?_) (a' := ?_) (l' := #[true, false, false, false, false, false, false, false, false, false, false, false, false, false, false, false, false, false, false, false, false, false, false, false, false, false, false, false, false, false, false, false]) (d := some 49) rfl (by kernel_rfl) (by kernel_rfl) (by kernel_rfl) (by kernel_rfl) (fun _ _ _ h => h) HF.out rfl ?_ rfl rfl ?_ ?_
  rotate_left
  · intro w' hF; have f10 := hF.2.1.box.cell0; have f11 := hF.2.1.box.cell1; have f20 := hF.2.2.1.box.cell0; have f21 := hF.2.2.1.box.cell1; have f30 := hF.2.2.2.1.box.cell0; have f31 := hF.2.2.2.1.box.cell1; have f40 := hF.2.2.2.2.1.box.cell0; have f41 := hF.2.2.2.2.1.box.cell1; have f50 := hF.2.2.2.2.2.1.box.cell0; have f51 := hF.2.2.2.2.2.1.box.cell1; clear hF; go_simp; try rfl
  rotate_left
  · simp only [Act.put]; exact rfl
  refine Calm.take (i := 1) (v := ?_) (a' := ?_) (l' := #[true, true, false, false, false, false, false, false, false, false, false, false, false, false, false, false, false, false, false, false, false, false, false, false, false, false, false, false, false, false, false, false]) (d := some 50) rfl (by kernel_rfl) (by kernel_rfl) (by kernel_rfl) (by kernel_rfl) (fun _ _ _ h => h) HF.out rfl ?_ rfl rfl ?_ ?_
  rotate_left
  · intro w' hF; have f10 := hF.2.1.box.cell0; have f11 := hF.2.1.box.cell1; have f20 := hF.2.2.1.box.cell0; have f21 := hF.2.2.1.box.cell1; have f30 := hF.2.2.2.1.box.cell0; have f31 := hF.2.2.2.1.box.cell1; have f40 := hF.2.2.2.2.1.box.cell0; have f41 := hF.2.2.2.2.1.box.cell1; have f50 := hF.2.2.2.2.2.1.box.cell0; have f51 := hF.2.2.2.2.2.1.box.cell1; clear hF; go_simp; try rfl
  rotate_left
  · simp only [Act.put]; exact rfl
  refine Calm.take (i := 2) (v := ?_) (a' := ?_) (l' := #[true, true, true, false, false, false, false, false, false, false, false, false, false, false, false, false, false, false, false, false, false, false, false, false, false, false, false, false, false, false, false, false]) (d := some 51) rfl (by kernel_rfl) (by kernel_rfl) (by kernel_rfl) (by kernel_rfl) (fun _ _ _ h => h) HF.out rfl ?_ rfl rfl ?_ ?_
  rotate_left
  · intro w' hF; have f10 := hF.2.1.box.cell0; have f11 := hF.2.1.box.cell1; have f20 := hF.2.2.1.box.cell0; have f21 := hF.2.2.1.box.cell1; have f30 := hF.2.2.2.1.box.cell0; have f31 := hF.2.2.2.1.box.cell1; have f40 := hF.2.2.2.2.1.box.cell0; have f41 := hF.2.2.2.2.1.box.cell1; have f50 := hF.2.2.2.2.2.1.box.cell0; have f51 := hF.2.2.2.2.2.1.box.cell1; clear hF; go_simp; try rfl
  rotate_left
  · simp only [Act.put]; exact rfl
  refine Calm.take (i := 4) (v := ?_) (a' := ?_) (l' := #[true, true, true, false, true, false, false, false, false, false, false, false, false, false, false, false, false, false, false, false, false, false, false, false, false, false, false, false, false, false, false, false]) (d := some 53) rfl (by kernel_rfl) (by kernel_rfl) (by kernel_rfl) (by kernel_rfl) (fun _ _ _ h => h) HF.out rfl ?_ rfl rfl ?_ ?_
  rotate_left
  · intro w' hF; have f10 := hF.2.1.box.cell0; have f11 := hF.2.1.box.cell1; have f20 := hF.2.2.1.box.cell0; have f21 := hF.2.2.1.box.cell1; have f30 := hF.2.2.2.1.box.cell0; have f31 := hF.2.2.2.1.box.cell1; have f40 := hF.2.2.2.2.1.box.cell0; have f41 := hF.2.2.2.2.1.box.cell1; have f50 := hF.2.2.2.2.2.1.box.cell0; have f51 := hF.2.2.2.2.2.1.box.cell1; clear hF; go_simp; try rfl
  rotate_left
  · simp only [Act.put]; exact rfl
  refine Calm.one (i := 3) (l' := #[true, true, true, true, true, false, false, false, false, false, false, false, false, false, false, false, false, false, false, false, false, false, false, false, false, false, false, false, false, false, false, false]) (by kernel_rfl) rfl rfl rfl fun K hK => ?_
  go_simp
  refine (iadd_any _ _ (sg b2 (val zs)) (sg b1 (val ys)) _ HF.out.2.2.2.1.int HF.out.2.2.1.int (SzI.len SZ.out (by decide)) (SzI.len SY.out (by decide))).mono ?_
  rintro e u0 ⟨v0, rfl, n, hb⟩
  try replace BX := hide (BX.out.step hb)
  have T1 := hide n
  clear n
  have HF' := hide (And.intro (HF.out.1.trans ((hb).mono HF.out.1.size)) (And.intro (HF.out.2.1.step (hb)) (And.intro (HF.out.2.2.1.step (hb)) (And.intro (HF.out.2.2.2.1.step (hb)) (And.intro (HF.out.2.2.2.2.1.step (hb)) (And.intro (HF.out.2.2.2.2.2.1.step (hb)) (HF.out.2.2.2.2.2.2.below (hb))))))))
  refine hK _ _ (fun _ => HF'.out) ?_
  clear hK K HF hb
  have HF := hide HF'.out
  clear HF'
  refine Calm.one (i := 5) (l' := #[true, true, true, true, true, true, false, false, false, false, false, false, false, false, false, false, false, false, false, false, false, false, false, false, false, false, false, false, false, false, false, false]) (by kernel_rfl) rfl rfl rfl fun K hK => ?_
  go_simp
  refine (iadd_any _ _ ((sg b2 (val zs)) + (sg b1 (val ys))) (sg b0 (val xs)) _ T1.out HF.out.2.1.int (SzI.len (SzI.add SZ.out SY.out) (by decide)) (SzI.len SX.out (by decide))).mono ?_
  rintro e u1 ⟨v1, rfl, n, hb⟩
  try replace BX := hide (BX.out.step hb)
  clear T1
  have T2 := hide n
  clear n
  have HF' := hide (And.intro (HF.out.1.trans ((hb).mono HF.out.1.size)) (And.intro (HF.out.2.1.step (hb)) (And.intro (HF.out.2.2.1.step (hb)) (And.intro (HF.out.2.2.2.1.step (hb)) (And.intro (HF.out.2.2.2.2.1.step (hb)) (And.intro (HF.out.2.2.2.2.2.1.step (hb)) (HF.out.2.2.2.2.2.2.below (hb))))))))
  refine hK _ _ (fun _ => HF'.out) ?_
  clear hK K HF hb
  have HF := hide HF'.out
  clear HF'
  refine Calm.one (i := 6) (l' := #[true, true, true, true, true, true, true, false, false, false, false, false, false, false, false, false, false, false, false, false, false, false, false, false, false, false, false, false, false, false, false, false]) (by kernel_rfl) rfl rfl rfl fun K hK => ?_
  go_simp
  refine (icmp_same _ _ (((sg b0 (val xs)) + (sg b1 (val ys))) + (sg b2 (val zs))) (((sg b2 (val zs)) + (sg b1 (val ys))) + (sg b0 (val xs))) _ HF.out.2.2.2.2.1.int T2.out (by omega)).mono ?_
  rintro e u2 ⟨rfl, hb⟩
  try replace BX := hide (BX.out.step hb)
  clear T2
  have HF' := hide (And.intro (HF.out.1.trans ((hb).mono HF.out.1.size)) (And.intro (HF.out.2.1.step (hb)) (And.intro (HF.out.2.2.1.step (hb)) (And.intro (HF.out.2.2.2.1.step (hb)) (And.intro (HF.out.2.2.2.2.1.step (hb)) (And.intro (HF.out.2.2.2.2.2.1.step (hb)) (HF.out.2.2.2.2.2.2.below (hb))))))))
  refine hK _ _ (fun _ => HF'.out) ?_
  clear hK K HF hb
  have HF := hide HF'.out
  clear HF'
  refine Calm.take (i := 7) (v := ?_) (a' := ?_) (l' := #[true, true, true, true, true, true, true, true, false, false, false, false, false, false, false, false, false, false, false, false, false, false, false, false, false, false, false, false, false, false, false, false]) (d := some 56) rfl (by kernel_rfl) (by kernel_rfl) (by kernel_rfl) (by kernel_rfl) (fun _ _ _ h => h) HF.out rfl ?_ rfl rfl ?_ ?_
  rotate_left
  · intro w' hF; clear hF; go_simp; try rfl
  rotate_left
  · simp only [Act.put]; exact rfl
  refine Calm.take (i := 8) (v := ?_) (a' := ?_) (l' := #[true, true, true, true, true, true, true, true, true, false, false, false, false, false, false, false, false, false, false, false, false, false, false, false, false, false, false, false, false, false, false, false]) (d := some 57) rfl (by kernel_rfl) (by kernel_rfl) (by kernel_rfl) (by kernel_rfl) (fun _ _ _ h => h) HF.out rfl ?_ rfl rfl ?_ ?_
  rotate_left
  · intro w' hF; clear hF; go_simp; try rfl
  rotate_left
  · simp only [Act.put]; exact rfl
  refine Calm.take (i := 9) (v := ?_) (a' := ?_) (l' := #[true, true, true, true, true, true, true, true, true, true, false, false, false, false, false, false, false, false, false, false, false, false, false, false, false, false, false, false, false, false, false, false]) (d := some 58) rfl (by kernel_rfl) (by kernel_rfl) (by kernel_rfl) (by kernel_rfl) (fun _ _ _ h => h) HF.out (by kernel_rfl) ?_ rfl rfl ?_ ?_
  rotate_left
  · intro w' hF; have f10 := hF.2.1.box.cell0; have f11 := hF.2.1.box.cell1; have f20 := hF.2.2.1.box.cell0; have f21 := hF.2.2.1.box.cell1; have f30 := hF.2.2.2.1.box.cell0; have f31 := hF.2.2.2.1.box.cell1; have f40 := hF.2.2.2.2.1.box.cell0; have f41 := hF.2.2.2.2.1.box.cell1; have f50 := hF.2.2.2.2.2.1.box.cell0; have f51 := hF.2.2.2.2.2.1.box.cell1; clear hF; go_simp; try rfl
  rotate_left
  · simp only [Act.put]; exact rfl
  refine Calm.take (i := 10) (v := ?_) (a' := ?_) (l' := #[true, true, true, true, true, true, true, true, true, true, true, false, false, false, false, false, false, false, false, false, false, false, false, false, false, false, false, false, false, false, false, false]) (d := some 59) rfl (by kernel_rfl) (by kernel_rfl) (by kernel_rfl) (by kernel_rfl) (fun _ _ _ h => h) HF.out (by kernel_rfl) ?_ rfl rfl ?_ ?_
  rotate_left
  · intro w' hF; clear hF; go_simp; try rfl
  rotate_left
  · simp only [Act.put]; exact rfl
  refine Calm.one (i := 11) (l' := #[true, true, true, true, true, true, true, true, true, true, true, true, false, false, false, false, false, false, false, false, false, false, false, false, false, false, false, false, false, false, false, false]) (by kernel_rfl) rfl (by kernel_rfl) rfl fun K hK => ?_
  go_simp
  refine (isum_three _ (sg b2 (val zs)) (sg b0 (val xs)) (sg b1 (val ys)) _ HF.out.2.2.2.2.2.2 SZ.out SX.out SY.out).mono ?_
  rintro e u3 ⟨v3, rfl, n, hb⟩
  try replace BX := hide (BX.out.step hb)
  have T3 := hide n
  clear n
  have HF' := hide (And.intro (HF.out.1.trans ((hb).mono HF.out.1.size)) (And.intro (HF.out.2.1.step (hb)) (And.intro (HF.out.2.2.1.step (hb)) (And.intro (HF.out.2.2.2.1.step (hb)) (And.intro (HF.out.2.2.2.2.1.step (hb)) (And.intro (HF.out.2.2.2.2.2.1.step (hb)) (HF.out.2.2.2.2.2.2.below (hb))))))))
  refine hK _ _ (fun _ => HF'.out) ?_
  clear hK K HF hb
  have HF := hide HF'.out
  clear HF'
  refine Calm.one (i := 12) (l' := #[true, true, true, true, true, true, true, true, true, true, true, true, true, false, false, false, false, false, false, false, false, false, false, false, false, false, false, false, false, false, false, false]) (by kernel_rfl) rfl (by kernel_rfl) rfl fun K hK => ?_
  go_simp
  refine (icmp_same _ _ (((sg b0 (val xs)) + (sg b1 (val ys))) + (sg b2 (val zs))) (((sg b2 (val zs)) + (sg b0 (val xs))) + (sg b1 (val ys))) _ HF.out.2.2.2.2.1.int T3.out (by omega)).mono ?_
  rintro e u4 ⟨rfl, hb⟩
  try replace BX := hide (BX.out.step hb)
  clear T3
  have HF' := hide (And.intro (HF.out.1.trans ((hb).mono HF.out.1.size)) (And.intro (HF.out.2.1.step (hb)) (And.intro (HF.out.2.2.1.step (hb)) (And.intro (HF.out.2.2.2.1.step (hb)) (And.intro (HF.out.2.2.2.2.1.step (hb)) (And.intro (HF.out.2.2.2.2.2.1.step (hb)) (HF.out.2.2.2.2.2.2.below (hb))))))))
  refine hK _ _ (fun _ => HF'.out) ?_
  clear hK K HF hb
  have HF := hide HF'.out
  clear HF'
  refine Calm.take (i := 13) (v := ?_) (a' := ?_) (l' := #[true, true, true, true, true, true, true, true, true, true, true, true, true, true, false, false, false, false, false, false, false, false, false, false, false, false, false, false, false, false, false, false]) (d := some 62) rfl (by kernel_rfl) (by kernel_rfl) (by kernel_rfl) (by kernel_rfl) (fun _ _ _ h => h) HF.out (by kernel_rfl) ?_ rfl rfl ?_ ?_
  rotate_left
  · intro w' hF; clear hF; go_simp; try rfl
  rotate_left
  · simp only [Act.put]; exact rfl
  refine Calm.take (i := 14) (v := ?_) (a' := ?_) (l' := #[true, true, true, true, true, true, true, true, true, true, true, true, true, true, true, false, false, false, false, false, false, false, false, false, false, false, false, false, false, false, false, false]) (d := some 63) rfl (by kernel_rfl) (by kernel_rfl) (by kernel_rfl) (by kernel_rfl) (fun _ _ _ h => h) HF.out rfl ?_ rfl rfl ?_ ?_
  rotate_left
  · intro w' hF; clear hF; go_simp; try rfl
  rotate_left
  · simp only [Act.put]; exact rfl
  refine Calm.take (i := 15) (v := ?_) (a' := ?_) (l' := #[true, true, true, true, true, true, true, true, true, true, true, true, true, true, true, true, false, false, false, false, false, false, false, false, false, false, false, false, false, false, false, false]) (d := some 64) rfl (by kernel_rfl) (by kernel_rfl) (by kernel_rfl) (by kernel_rfl) (fun _ _ _ h => h) HF.out rfl ?_ rfl rfl ?_ ?_
  rotate_left
  · intro w' hF; clear hF; go_simp; try rfl
  rotate_left
  · simp only [Act.put]; exact rfl
  refine Calm.take (i := 16) (v := ?_) (a' := ?_) (l' := #[true, true, true, true, true, true, true, true, true, true, true, true, true, true, true, true, true, false, false, false, false, false, false, false, false, false, false, false, false, false, false, false]) (d := some 65) rfl (by kernel_rfl) (by kernel_rfl) (by kernel_rfl) (by kernel_rfl) (fun _ _ _ h => h) HF.out (by kernel_rfl) ?_ rfl rfl ?_ ?_
  rotate_left
  · intro w' hF; have f10 := hF.2.1.box.cell0; have f11 := hF.2.1.box.cell1; have f20 := hF.2.2.1.box.cell0; have f21 := hF.2.2.1.box.cell1; have f30 := hF.2.2.2.1.box.cell0; have f31 := hF.2.2.2.1.box.cell1; have f40 := hF.2.2.2.2.1.box.cell0; have f41 := hF.2.2.2.2.1.box.cell1; have f50 := hF.2.2.2.2.2.1.box.cell0; have f51 := hF.2.2.2.2.2.1.box.cell1; clear hF; go_simp; try rfl
  rotate_left
  · simp only [Act.put]; exact rfl
  refine Calm.take (i := 17) (v := ?_) (a' := ?_) (l' := #[true, true, true, true, true, true, true, true, true, true, true, true, true, true, true, true, true, true, false, false, false, false, false, false, false, false, false, false, false, false, false, false]) (d := some 66) rfl (by kernel_rfl) (by kernel_rfl) (by kernel_rfl) (by kernel_rfl) (fun _ _ _ h => h) HF.out (by kernel_rfl) ?_ rfl rfl ?_ ?_
  rotate_left
  · intro w' hF; have f10 := hF.2.1.box.cell0; have f11 := hF.2.1.box.cell1; have f20 := hF.2.2.1.box.cell0; have f21 := hF.2.2.1.box.cell1; have f30 := hF.2.2.2.1.box.cell0; have f31 := hF.2.2.2.1.box.cell1; have f40 := hF.2.2.2.2.1.box.cell0; have f41 := hF.2.2.2.2.1.box.cell1; have f50 := hF.2.2.2.2.2.1.box.cell0; have f51 := hF.2.2.2.2.2.1.box.cell1; clear hF; go_simp; try rfl
  rotate_left
  · simp only [Act.put]; exact rfl
  refine Calm.take (i := 18) (v := ?_) (a' := ?_) (l' := #[true, true, true, true, true, true, true, true, true, true, true, true, true, true, true, true, true, true, true, false, false, false, false, false, false, false, false, false, false, false, false, false]) (d := some 67) rfl (by kernel_rfl) (by kernel_rfl) (by kernel_rfl) (by kernel_rfl) (fun _ _ _ h => h) HF.out (by kernel_rfl) ?_ rfl rfl ?_ ?_
  rotate_left
  · intro w' hF; have f10 := hF.2.1.box.cell0; have f11 := hF.2.1.box.cell1; have f20 := hF.2.2.1.box.cell0; have f21 := hF.2.2.1.box.cell1; have f30 := hF.2.2.2.1.box.cell0; have f31 := hF.2.2.2.1.box.cell1; have f40 := hF.2.2.2.2.1.box.cell0; have f41 := hF.2.2.2.2.1.box.cell1; have f50 := hF.2.2.2.2.2.1.box.cell0; have f51 := hF.2.2.2.2.2.1.box.cell1; clear hF; go_simp; try rfl
  rotate_left
  · simp only [Act.put]; exact rfl
  refine Calm.take (i := 19) (v := ?_) (a' := ?_) (l' := #[true, true, true, true, true, true, true, true, true, true, true, true, true, true, true, true, true, true, true, true, false, false, false, false, false, false, false, false, false, false, false, false]) (d := some 68) rfl (by kernel_rfl) (by kernel_rfl) (by kernel_rfl) (by kernel_rfl) (fun _ _ _ h => h) HF.out (by kernel_rfl) ?_ rfl rfl ?_ ?_
  rotate_left
  · intro w' hF; have f10 := hF.2.1.box.cell0; have f11 := hF.2.1.box.cell1; have f20 := hF.2.2.1.box.cell0; have f21 := hF.2.2.1.box.cell1; have f30 := hF.2.2.2.1.box.cell0; have f31 := hF.2.2.2.1.box.cell1; have f40 := hF.2.2.2.2.1.box.cell0; have f41 := hF.2.2.2.2.1.box.cell1; have f50 := hF.2.2.2.2.2.1.box.cell0; have f51 := hF.2.2.2.2.2.1.box.cell1; clear hF; go_simp; try rfl
  rotate_left
  · simp only [Act.put]; exact rfl
  refine Calm.one (i := 20) (l' := #[true, true, true, true, true, true, true, true, true, true, true, true, true, true, true, true, true, true, true, true, true, false, false, false, false, false, false, false, false, false, false, false]) (by kernel_rfl) rfl (by kernel_rfl) rfl fun K hK => ?_
  go_simp
  refine (imul_any _ _ (sg b2 (val zs)) (sg b1 (val ys)) _ HF.out.2.2.2.1.int HF.out.2.2.1.int (SzI.len SZ.out (by decide)) (SzI.len SY.out (by decide))).mono ?_
  rintro e u5 ⟨v5, rfl, n, hb⟩
  try replace BX := hide (BX.out.step hb)
  have T4 := hide n
  clear n
  have HF' := hide (And.intro (HF.out.1.trans ((hb).mono HF.out.1.size)) (And.intro (HF.out.2.1.step (hb)) (And.intro (HF.out.2.2.1.step (hb)) (And.intro (HF.out.2.2.2.1.step (hb)) (And.intro (HF.out.2.2.2.2.1.step (hb)) (And.intro (HF.out.2.2.2.2.2.1.step (hb)) (HF.out.2.2.2.2.2.2.below (hb))))))))
  refine hK _ _ (fun _ => HF'.out) ?_
  clear hK K HF hb
  have HF := hide HF'.out
  clear HF'
  refine Calm.one (i := 21) (l' := #[true, true, true, true, true, true, true, true, true, true, true, true, true, true, true, true, true, true, true, true, true, true, false, false, false, false, false, false, false, false, false, false]) (by kernel_rfl) rfl (by kernel_rfl) rfl fun K hK => ?_
  go_simp
  refine (imul_any _ _ (sg b0 (val xs)) ((sg b2 (val zs)) * (sg b1 (val ys))) _ HF.out.2.1.int T4.out (SzI.len SX.out (by decide)) (SzI.len (SzI.mul SZ.out SY.out) (by decide))).mono ?_
  rintro e u6 ⟨v6, rfl, n, hb⟩
  try replace BX := hide (BX.out.step hb)
  clear T4
  have T5 := hide n
  clear n
  have HF' := hide (And.intro (HF.out.1.trans ((hb).mono HF.out.1.size)) (And.intro (HF.out.2.1.step (hb)) (And.intro (HF.out.2.2.1.step (hb)) (And.intro (HF.out.2.2.2.1.step (hb)) (And.intro (HF.out.2.2.2.2.1.step (hb)) (And.intro (HF.out.2.2.2.2.2.1.step (hb)) (HF.out.2.2.2.2.2.2.below (hb))))))))
  refine hK _ _ (fun _ => HF'.out) ?_
  clear hK K HF hb
  have HF := hide HF'.out
  clear HF'
  refine Calm.one (i := 22) (l' := #[true, true, true, true, true, true, true, true, true, true, true, true, true, true, true, true, true, true, true, true, true, true, true, false, false, false, false, false, false, false, false, false]) (by kernel_rfl) rfl (by kernel_rfl) rfl fun K hK => ?_
  go_simp
  refine (icmp_same _ _ (((sg b0 (val xs)) * (sg b1 (val ys))) * (sg b2 (val zs))) ((sg b0 (val xs)) * ((sg b2 (val zs)) * (sg b1 (val ys)))) _ HF.out.2.2.2.2.2.1.int T5.out (by ac_rfl)).mono ?_
  rintro e u7 ⟨rfl, hb⟩
  try replace BX := hide (BX.out.step hb)
  clear T5
  have HF' := hide (And.intro (HF.out.1.trans ((hb).mono HF.out.1.size)) (And.intro (HF.out.2.1.step (hb)) (And.intro (HF.out.2.2.1.step (hb)) (And.intro (HF.out.2.2.2.1.step (hb)) (And.intro (HF.out.2.2.2.2.1.step (hb)) (And.intro (HF.out.2.2.2.2.2.1.step (hb)) (HF.out.2.2.2.2.2.2.below (hb))))))))
  refine hK _ _ (fun _ => HF'.out) ?_
  clear hK K HF hb
  have HF := hide HF'.out
  clear HF'
  refine Calm.take (i := 23) (v := ?_) (a' := ?_) (l' := #[true, true, true, true, true, true, true, true, true, true, true, true, true, true, true, true, true, true, true, true, true, true, true, true, false, false, false, false, false, false, false, false]) (d := some 72) rfl (by kernel_rfl) (by kernel_rfl) (by kernel_rfl) (by kernel_rfl) (fun _ _ _ h => h) HF.out (by kernel_rfl) ?_ rfl rfl ?_ ?_
  rotate_left
  · intro w' hF; clear hF; go_simp; try rfl
  rotate_left
  · simp only [Act.put]; exact rfl
  refine Calm.take (i := 24) (v := ?_) (a' := ?_) (l' := #[true, true, true, true, true, true, true, true, true, true, true, true, true, true, true, true, true, true, true, true, true, true, true, true, true, false, false, false, false, false, false, false]) (d := some 73) rfl (by kernel_rfl) (by kernel_rfl) (by kernel_rfl) (by kernel_rfl) (fun _ _ _ h => h) HF.out rfl ?_ rfl rfl ?_ ?_
  rotate_left
  · intro w' hF; clear hF; go_simp; try rfl
  rotate_left
  · simp only [Act.put]; exact rfl
  refine Calm.take (i := 25) (v := ?_) (a' := ?_) (l' := #[true, true, true, true, true, true, true, true, true, true, true, true, true, true, true, true, true, true, true, true, true, true, true, true, true, true, false, false, false, false, false, false]) (d := some 74) rfl (by kernel_rfl) (by kernel_rfl) (by kernel_rfl) (by kernel_rfl) (fun _ _ _ h => h) HF.out rfl ?_ rfl rfl ?_ ?_
  rotate_left
  · intro w' hF; clear hF; go_simp; try rfl
  rotate_left
  · simp only [Act.put]; exact rfl
  refine Calm.take (i := 26) (v := ?_) (a' := ?_) (l' := #[true, true, true, true, true, true, true, true, true, true, true, true, true, true, true, true, true, true, true, true, true, true, true, true, true, true, true, false, false, false, false, false]) (d := some 75) rfl (by kernel_rfl) (by kernel_rfl) (by kernel_rfl) (by kernel_rfl) (fun _ _ _ h => h) HF.out (by kernel_rfl) ?_ rfl rfl ?_ ?_
  rotate_left
  · intro w' hF; have f10 := hF.2.1.box.cell0; have f11 := hF.2.1.box.cell1; have f20 := hF.2.2.1.box.cell0; have f21 := hF.2.2.1.box.cell1; have f30 := hF.2.2.2.1.box.cell0; have f31 := hF.2.2.2.1.box.cell1; have f40 := hF.2.2.2.2.1.box.cell0; have f41 := hF.2.2.2.2.1.box.cell1; have f50 := hF.2.2.2.2.2.1.box.cell0; have f51 := hF.2.2.2.2.2.1.box.cell1; clear hF; go_simp; try rfl
  rotate_left
  · simp only [Act.put]; exact rfl
  refine Calm.take (i := 27) (v := ?_) (a' := ?_) (l' := #[true, true, true, true, true, true, true, true, true, true, true, true, true, true, true, true, true, true, true, true, true, true, true, true, true, true, true, true, false, false, false, false]) (d := some 76) rfl (by kernel_rfl) (by kernel_rfl) (by kernel_rfl) (by kernel_rfl) (fun _ _ _ h => h) HF.out (by kernel_rfl) ?_ rfl rfl ?_ ?_
  rotate_left
  · intro w' hF; clear hF; go_simp; try rfl
  rotate_left
  · simp only [Act.put]; exact rfl
  refine Calm.one (i := 28) (l' := #[true, true, true, true, true, true, true, true, true, true, true, true, true, true, true, true, true, true, true, true, true, true, true, true, true, true, true, true, true, false, false, false]) (by kernel_rfl) rfl (by kernel_rfl) rfl fun K hK => ?_
  go_simp
  refine (iproduct_three _ (sg b2 (val zs)) (sg b0 (val xs)) (sg b1 (val ys)) _ HF.out.2.2.2.2.2.2 SZ.out SX.out SY.out).mono ?_
  rintro e u8 ⟨v8, rfl, n, hb⟩
  try replace BX := hide (BX.out.step hb)
  have T6 := hide n
  clear n
  have HF' := hide (And.intro (HF.out.1.trans ((hb).mono HF.out.1.size)) (And.intro (HF.out.2.1.step (hb)) (And.intro (HF.out.2.2.1.step (hb)) (And.intro (HF.out.2.2.2.1.step (hb)) (And.intro (HF.out.2.2.2.2.1.step (hb)) (And.intro (HF.out.2.2.2.2.2.1.step (hb)) (HF.out.2.2.2.2.2.2.below (hb))))))))
  refine hK _ _ (fun _ => HF'.out) ?_
  clear hK K HF hb
  have HF := hide HF'.out
  clear HF'
  refine Calm.one (i := 29) (l' := #[true, true, true, true, true, true, true, true, true, true, true, true, true, true, true, true, true, true, true, true, true, true, true, true, true, true, true, true, true, true, false, false]) (by kernel_rfl) rfl (by kernel_rfl) rfl fun K hK => ?_
  go_simp
  refine (icmp_same _ _ (((sg b0 (val xs)) * (sg b1 (val ys))) * (sg b2 (val zs))) (((sg b2 (val zs)) * (sg b0 (val xs))) * (sg b1 (val ys))) _ HF.out.2.2.2.2.2.1.int T6.out (by ac_rfl)).mono ?_
  rintro e u9 ⟨rfl, hb⟩
  try replace BX := hide (BX.out.step hb)
  clear T6
  have HF' := hide (And.intro (HF.out.1.trans ((hb).mono HF.out.1.size)) (And.intro (HF.out.2.1.step (hb)) (And.intro (HF.out.2.2.1.step (hb)) (And.intro (HF.out.2.2.2.1.step (hb)) (And.intro (HF.out.2.2.2.2.1.step (hb)) (And.intro (HF.out.2.2.2.2.2.1.step (hb)) (HF.out.2.2.2.2.2.2.below (hb))))))))
  refine hK _ _ (fun _ => HF'.out) ?_
  clear hK K HF hb
  have HF := hide HF'.out
  clear HF'
  refine Calm.take (i := 30) (v := ?_) (a' := ?_) (l' := #[true, true, true, true, true, true, true, true, true, true, true, true, true, true, true, true, true, true, true, true, true, true, true, true, true, true, true, true, true, true, true, false]) (d := some 79) rfl (by kernel_rfl) (by kernel_rfl) (by kernel_rfl) (by kernel_rfl) (fun _ _ _ h => h) HF.out (by kernel_rfl) ?_ rfl rfl ?_ ?_
  rotate_left
  · intro w' hF; clear hF; go_simp; try rfl
  rotate_left
  · simp only [Act.put]; exact rfl
  refine Calm.take (i := 31) (v := ?_) (a' := ?_) (l' := #[true, true, true, true, true, true, true, true, true, true, true, true, true, true, true, true, true, true, true, true, true, true, true, true, true, true, true, true, true, true, true, true]) (d := some 80) rfl (by kernel_rfl) (by kernel_rfl) (by kernel_rfl) (by kernel_rfl) (fun _ _ _ h => h) HF.out rfl ?_ rfl rfl ?_ ?_
  rotate_left
  · intro w' hF; clear hF; go_simp; try rfl
  rotate_left
  · simp only [Act.put]; exact rfl
  refine Calm.done (by kernel_rfl) ?_
  clear HB HL Vx Vy Vz Vs Vp
  have HB := hide HF.out.1
  have Vx := hide HF.out.2.1
  have Vy := hide HF.out.2.2.1
  have Vz := hide HF.out.2.2.2.1
  have Vs := hide HF.out.2.2.2.2.1
  have Vp := hide HF.out.2.2.2.2.2.1
  have HL := hide HF.out.2.2.2.2.2.2
  clear HF
  generalize u9 = w12 at *
  go_wp2_with fail
  refine wp_calm (fun w' => Below w.heap.size w w' ∧ Var w' gx sx mx lx kx (sg b0 (val xs)) ∧ Var w' gy sy my ly ky (sg b1 (val ys)) ∧ Var w' gz sz mz lz kz (sg b2 (val zs)) ∧ Var w' gs ss ms ls ks (((sg b0 (val xs)) + (sg b1 (val ys))) + (sg b2 (val zs))) ∧ Var w' gp sp mp lp kp (((sg b0 (val xs)) * (sg b1 (val ys))) * (sg b2 (val zs))) ∧ Ints w' (.slice (some ⟨gl, 0, none⟩) 3 3) [(sg b2 (val zs)), (sg b0 (val xs)), (sg b1 (val ys))]) (fun _ => true) 46 #[false, false, false, false, false, false, false, false, false, false, false, false, false, false, false, false, false, false, false, false, false, false, false, false, false, false, false, false, false, false, false, false, false, false, false, false, false, false, false, false, false, false, false, false, false, false] (by kernel_rfl) rfl rfl ?_
  have HF := hide (And.intro (HB.out.drew) (And.intro (Vx.out.drew) (And.intro (Vy.out.drew) (And.intro (Vz.out.drew) (And.intro (Vs.out.drew) (And.intro (Vp.out.drew) (HL.out.drew)))))))
  generalize w12.drew = w12d at HF ⊢
  refine Calm.take (i := 0) (v := ?_) (a' := ?_) (l' := #[true, false, false, false, false, false, false, false, false, false, false, false, false, false, false, false, false, false, false, false, false, false, false, false, false, false, false, false, false, false, false, false, false, false, false, false, false, false, false, false, false, false, false, false, false, false]) (d := some 81) rfl (by kernel_rfl) (by kernel_rfl) (by kernel_rfl) (by kernel_rfl) (fun _ _ _ h => h) HF.out rfl ?_ rfl rfl ?_ ?_
  rotate_left
  · intro w' hF; have f10 := hF.2.1.box.cell0; have f11 := hF.2.1.box.cell1; have f20 := hF.2.2.1.box.cell0; have f21 := hF.2.2.1.box.cell1; have f30 := hF.2.2.2.1.box.cell0; have f31 := hF.2.2.2.1.box.cell1; have f40 := hF.2.2.2.2.1.box.cell0; have f41 := hF.2.2.2.2.1.box.cell1; have f50 := hF.2.2.2.2.2.1.box.cell0; have f51 := hF.2.2.2.2.2.1.box.cell1; clear hF; go_simp; try rfl
  rotate_left
  · simp only [Act.put]; exact rfl
  refine Calm.take (i := 1) (v := ?_) (a' := ?_) (l' := #[true, true, false, false, false, false, false, false, false, false, false, false, false, false, false, false, false, false, false, false, false, false, false, false, false, false, false, false, false, false, false, false, false, false, false, false, false, false, false, false, false, false, false, false, false, false]) (d := some 82) rfl (by kernel_rfl) (by kernel_rfl) (by kernel_rfl) (by kernel_rfl) (fun _ _ _ h => h) HF.out rfl ?_ rfl rfl ?_ ?_
  rotate_left
  · intro w' hF; have f10 := hF.2.1.box.cell0; have f11 := hF.2.1.box.cell1; have f20 := hF.2.2.1.box.cell0; have f21 := hF.2.2.1.box.cell1; have f30 := hF.2.2.2.1.box.cell0; have f31 := hF.2.2.2.1.box.cell1; have f40 := hF.2.2.2.2.1.box.cell0; have f41 := hF.2.2.2.2.1.box.cell1; have f50 := hF.2.2.2.2.2.1.box.cell0; have f51 := hF.2.2.2.2.2.1.box.cell1; clear hF; go_simp; try rfl
  rotate_left
  · simp only [Act.put]; exact rfl
  refine Calm.take (i := 2) (v := ?_) (a' := ?_) (l' := #[true, true, true, false, false, false, false, false, false, false, false, false, false, false, false, false, false, false, false, false, false, false, false, false, false, false, false, false, false, false, false, false, false, false, false, false, false, false, false, false, false, false, false, false, false, false]) (d := some 83) rfl (by kernel_rfl) (by kernel_rfl) (by kernel_rfl) (by kernel_rfl) (fun _ _ _ h => h) HF.out rfl ?_ rfl rfl ?_ ?_
  rotate_left
  · intro w' hF; have f10 := hF.2.1.box.cell0; have f11 := hF.2.1.box.cell1; have f20 := hF.2.2.1.box.cell0; have f21 := hF.2.2.1.box.cell1; have f30 := hF.2.2.2.1.box.cell0; have f31 := hF.2.2.2.1.box.cell1; have f40 := hF.2.2.2.2.1.box.cell0; have f41 := hF.2.2.2.2.1.box.cell1; have f50 := hF.2.2.2.2.2.1.box.cell0; have f51 := hF.2.2.2.2.2.1.box.cell1; clear hF; go_simp; try rfl
  rotate_left
  · simp only [Act.put]; exact rfl
  refine Calm.take (i := 5) (v := ?_) (a' := ?_) (l' := #[true, true, true, false, false, true, false, false, false, false, false, false, false, false, false, false, false, false, false, false, false, false, false, false, false, false, false, false, false, false, false, false, false, false, false, false, false, false, false, false, false, false, false, false, false, false]) (d := some 86) rfl (by kernel_rfl) (by kernel_rfl) (by kernel_rfl) (by kernel_rfl) (fun _ _ _ h => h) HF.out rfl ?_ rfl rfl ?_ ?_
  rotate_left
  · intro w' hF; have f10 := hF.2.1.box.cell0; have f11 := hF.2.1.box.cell1; have f20 := hF.2.2.1.box.cell0; have f21 := hF.2.2.1.box.cell1; have f30 := hF.2.2.2.1.box.cell0; have f31 := hF.2.2.2.1.box.cell1; have f40 := hF.2.2.2.2.1.box.cell0; have f41 := hF.2.2.2.2.1.box.cell1; have f50 := hF.2.2.2.2.2.1.box.cell0; have f51 := hF.2.2.2.2.2.1.box.cell1; clear hF; go_simp; try rfl
  rotate_left
  · simp only [Act.put]; exact rfl
  refine Calm.take (i := 6) (v := ?_) (a' := ?_) (l' := #[true, true, true, false, false, true, true, false, false, false, false, false, false, false, false, false, false, false, false, false, false, false, false, false, false, false, false, false, false, false, false, false, false, false, false, false, false, false, false, false, false, false, false, false, false, false]) (d := some 87) rfl (by kernel_rfl) (by kernel_rfl) (by kernel_rfl) (by kernel_rfl) (fun _ _ _ h => h) HF.out rfl ?_ rfl rfl ?_ ?_
  rotate_left
  · intro w' hF; have f10 := hF.2.1.box.cell0; have f11 := hF.2.1.box.cell1; have f20 := hF.2.2.1.box.cell0; have f21 := hF.2.2.1.box.cell1; have f30 := hF.2.2.2.1.box.cell0; have f31 := hF.2.2.2.1.box.cell1; have f40 := hF.2.2.2.2.1.box.cell0; have f41 := hF.2.2.2.2.1.box.cell1; have f50 := hF.2.2.2.2.2.1.box.cell0; have f51 := hF.2.2.2.2.2.1.box.cell1; clear hF; go_simp; try rfl
  rotate_left
  · simp only [Act.put]; exact rfl
  refine Calm.take (i := 8) (v := ?_) (a' := ?_) (l' := #[true, true, true, false, false, true, true, false, true, false, false, false, false, false, false, false, false, false, false, false, false, false, false, false, false, false, false, false, false, false, false, false, false, false, false, false, false, false, false, false, false, false, false, false, false, false]) (d := some 89) rfl (by kernel_rfl) (by kernel_rfl) (by kernel_rfl) (by kernel_rfl) (fun _ _ _ h => h) HF.out rfl ?_ rfl rfl ?_ ?_
  rotate_left
  · intro w' hF; have f10 := hF.2.1.box.cell0; have f11 := hF.2.1.box.cell1; have f20 := hF.2.2.1.box.cell0; have f21 := hF.2.2.1.box.cell1; have f30 := hF.2.2.2.1.box.cell0; have f31 := hF.2.2.2.1.box.cell1; have f40 := hF.2.2.2.2.1.box.cell0; have f41 := hF.2.2.2.2.1.box.cell1; have f50 := hF.2.2.2.2.2.1.box.cell0; have f51 := hF.2.2.2.2.2.1.box.cell1; clear hF; go_simp; try rfl
  rotate_left
  · simp only [Act.put]; exact rfl
  refine Calm.take (i := 9) (v := ?_) (a' := ?_) (l' := #[true, true, true, false, false, true, true, false, true, true, false, false, false, false, false, false, false, false, false, false, false, false, false, false, false, false, false, false, false, false, false, false, false, false, false, false, false, false, false, false, false, false, false, false, false, false]) (d := some 90) rfl (by kernel_rfl) (by kernel_rfl) (by kernel_rfl) (by kernel_rfl) (fun _ _ _ h => h) HF.out rfl ?_ rfl rfl ?_ ?_
  rotate_left
  · intro w' hF; have f10 := hF.2.1.box.cell0; have f11 := hF.2.1.box.cell1; have f20 := hF.2.2.1.box.cell0; have f21 := hF.2.2.1.box.cell1; have f30 := hF.2.2.2.1.box.cell0; have f31 := hF.2.2.2.1.box.cell1; have f40 := hF.2.2.2.2.1.box.cell0; have f41 := hF.2.2.2.2.1.box.cell1; have f50 := hF.2.2.2.2.2.1.box.cell0; have f51 := hF.2.2.2.2.2.1.box.cell1; clear hF; go_simp; try rfl
  rotate_left
  · simp only [Act.put]; exact rfl
  refine Calm.one (i := 3) (l' := #[true, true, true, true, false, true, true, false, true, true, false, false, false, false, false, false, false, false, false, false, false, false, false, false, false, false, false, false, false, false, false, false, false, false, false, false, false, false, false, false, false, false, false, false, false, false]) (by kernel_rfl) rfl rfl rfl fun K hK => ?_
  go_simp
  refine (iadd_any _ _ (sg b1 (val ys)) (sg b2 (val zs)) _ HF.out.2.2.1.int HF.out.2.2.2.1.int (SzI.len SY.out (by decide)) (SzI.len SZ.out (by decide))).mono ?_
  rintro e u0 ⟨v0, rfl, n, hb⟩
  try replace BX := hide (BX.out.step hb)
  have T1 := hide n
  clear n
  have HF' := hide (And.intro (HF.out.1.trans ((hb).mono HF.out.1.size)) (And.intro (HF.out.2.1.step (hb)) (And.intro (HF.out.2.2.1.step (hb)) (And.intro (HF.out.2.2.2.1.step (hb)) (And.intro (HF.out.2.2.2.2.1.step (hb)) (And.intro (HF.out.2.2.2.2.2.1.step (hb)) (HF.out.2.2.2.2.2.2.below (hb))))))))
  refine hK _ _ (fun _ => HF'.out) ?_
  clear hK K HF hb
  have HF := hide HF'.out
  clear HF'
  refine Calm.one (i := 4) (l' := #[true, true, true, true, true, true, true, false, true, true, false, false, false, false, false, false, false, false, false, false, false, false, false, false, false, false, false, false, false, false, false, false, false, false, false, false, false, false, false, false, false, false, false, false, false, false]) (by kernel_rfl) rfl rfl rfl fun K hK => ?_
  go_simp
  refine (imul_any _ _ (sg b0 (val xs)) ((sg b1 (val ys)) + (sg b2 (val zs))) _ HF.out.2.1.int T1.out (SzI.len SX.out (by decide)) (SzI.len (SzI.add SY.out SZ.out) (by decide))).mono ?_
  rintro e u1 ⟨v1, rfl, n, hb⟩
  try replace BX := hide (BX.out.step hb)
  clear T1
  have T2 := hide n
  clear n
  have HF' := hide (And.intro (HF.out.1.trans ((hb).mono HF.out.1.size)) (And.intro (HF.out.2.1.step (hb)) (And.intro (HF.out.2.2.1.step (hb)) (And.intro (HF.out.2.2.2.1.step (hb)) (And.intro (HF.out.2.2.2.2.1.step (hb)) (And.intro (HF.out.2.2.2.2.2.1.step (hb)) (HF.out.2.2.2.2.2.2.below (hb))))))))
  refine hK _ _ (fun _ => HF'.out) ?_
  clear hK K HF hb
  have HF := hide HF'.out
  clear HF'
  refine Calm.one (i := 7) (l' := #[true, true, true, true, true, true, true, true, true, true, false, false, false, false, false, false, false, false, false, false, false, false, false, false, false, false, false, false, false, false, false, false, false, false, false, false, false, false, false, false, false, false, false, false, false, false]) (by kernel_rfl) rfl rfl rfl fun K hK => ?_
  go_simp
  refine (imul_any _ _ (sg b0 (val xs)) (sg b1 (val ys)) _ HF.out.2.1.int HF.out.2.2.1.int (SzI.len SX.out (by decide)) (SzI.len SY.out (by decide))).mono ?_
  rintro e u2 ⟨v2, rfl, n, hb⟩
  try replace BX := hide (BX.out.step hb)
  replace T2 := hide (T2.out.below hb)
  have T3 := hide n
  clear n
  have HF' := hide (And.intro (HF.out.1.trans ((hb).mono HF.out.1.size)) (And.intro (HF.out.2.1.step (hb)) (And.intro (HF.out.2.2.1.step (hb)) (And.intro (HF.out.2.2.2.1.step (hb)) (And.intro (HF.out.2.2.2.2.1.step (hb)) (And.intro (HF.out.2.2.2.2.2.1.step (hb)) (HF.out.2.2.2.2.2.2.below (hb))))))))
  refine hK _ _ (fun _ => HF'.out) ?_
  clear hK K HF hb
  have HF := hide HF'.out
  clear HF'
  refine Calm.one (i := 10) (l' := #[true, true, true, true, true, true, true, true, true, true, true, false, false, false, false, false, false, false, false, false, false, false, false, false, false, false, false, false, false, false, false, false, false, false, false, false, false, false, false, false, false, false, false, false, false, false]) (by kernel_rfl) rfl rfl rfl fun K hK => ?_
  go_simp
  refine (imul_any _ _ (sg b0 (val xs)) (sg b2 (val zs)) _ HF.out.2.1.int HF.out.2.2.2.1.int (SzI.len SX.out (by decide)) (SzI.len SZ.out (by decide))).mono ?_
  rintro e u3 ⟨v3, rfl, n, hb⟩
  try replace BX := hide (BX.out.step hb)
  replace T2 := hide (T2.out.below hb)
  replace T3 := hide (T3.out.below hb)
  have T4 := hide n
  clear n
  have HF' := hide (And.intro (HF.out.1.trans ((hb).mono HF.out.1.size)) (And.intro (HF.out.2.1.step (hb)) (And.intro (HF.out.2.2.1.step (hb)) (And.intro (HF.out.2.2.2.1.step (hb)) (And.intro (HF.out.2.2.2.2.1.step (hb)) (And.intro (HF.out.2.2.2.2.2.1.step (hb)) (HF.out.2.2.2.2.2.2.below (hb))))))))
  refine hK _ _ (fun _ => HF'.out) ?_
  clear hK K HF hb
  have HF := hide HF'.out
  clear HF'
  refine Calm.one (i := 11) (l' := #[true, true, true, true, true, true, true, true, true, true, true, true, false, false, false, false, false, false, false, false, false, false, false, false, false, false, false, false, false, false, false, false, false, false, false, false, false, false, false, false, false, false, false, false, false, false]) (by kernel_rfl) rfl rfl rfl fun K hK => ?_
  go_simp
  refine (iadd_any _ _ ((sg b0 (val xs)) * (sg b1 (val ys))) ((sg b0 (val xs)) * (sg b2 (val zs))) _ T3.out T4.out (SzI.len (SzI.mul SX.out SY.out) (by decide)) (SzI.len (SzI.mul SX.out SZ.out) (by decide))).mono ?_
  rintro e u4 ⟨v4, rfl, n, hb⟩
  try replace BX := hide (BX.out.step hb)
  replace T2 := hide (T2.out.below hb)
  clear T3
  clear T4
  have T5 := hide n
  clear n
  have HF' := hide (And.intro (HF.out.1.trans ((hb).mono HF.out.1.size)) (And.intro (HF.out.2.1.step (hb)) (And.intro (HF.out.2.2.1.step (hb)) (And.intro (HF.out.2.2.2.1.step (hb)) (And.intro (HF.out.2.2.2.2.1.step (hb)) (And.intro (HF.out.2.2.2.2.2.1.step (hb)) (HF.out.2.2.2.2.2.2.below (hb))))))))
  refine hK _ _ (fun _ => HF'.out) ?_
  clear hK K HF hb
  have HF := hide HF'.out
  clear HF'
  refine Calm.one (i := 12) (l' := #[true, true, true, true, true, true, true, true, true, true, true, true, true, false, false, false, false, false, false, false, false, false, false, false, false, false, false, false, false, false, false, false, false, false, false, false, false, false, false, false, false, false, false, false, false, false]) (by kernel_rfl) rfl rfl rfl fun K hK => ?_
  go_simp
  refine (icmp_same _ _ ((sg b0 (val xs)) * ((sg b1 (val ys)) + (sg b2 (val zs)))) (((sg b0 (val xs)) * (sg b1 (val ys))) + ((sg b0 (val xs)) * (sg b2 (val zs)))) _ T2.out T5.out (Int.mul_add _ _ _)).mono ?_
  rintro e u5 ⟨rfl, hb⟩
  try replace BX := hide (BX.out.step hb)
  clear T2
  clear T5
  have HF' := hide (And.intro (HF.out.1.trans ((hb).mono HF.out.1.size)) (And.intro (HF.out.2.1.step (hb)) (And.intro (HF.out.2.2.1.step (hb)) (And.intro (HF.out.2.2.2.1.step (hb)) (And.intro (HF.out.2.2.2.2.1.step (hb)) (And.intro (HF.out.2.2.2.2.2.1.step (hb)) (HF.out.2.2.2.2.2.2.below (hb))))))))
  refine hK _ _ (fun _ => HF'.out) ?_
  clear hK K HF hb
  have HF := hide HF'.out
  clear HF'
  refine Calm.take (i := 13) (v := ?_) (a' := ?_) (l' := #[true, true, true, true, true, true, true, true, true, true, true, true, true, true, false, false, false, false, false, false, false, false, false, false, false, false, false, false, false, false, false, false, false, false, false, false, false, false, false, false, false, false, false, false, false, false]) (d := some 94) rfl (by kernel_rfl) (by kernel_rfl) (by kernel_rfl) (by kernel_rfl) (fun _ _ _ h => h) HF.out rfl ?_ rfl rfl ?_ ?_
  rotate_left
  · intro w' hF; clear hF; go_simp; try rfl
  rotate_left
  · simp only [Act.put]; exact rfl
  refine Calm.take (i := 14) (v := ?_) (a' := ?_) (l' := #[true, true, true, true, true, true, true, true, true, true, true, true, true, true, true, false, false, false, false, false, false, false, false, false, false, false, false, false, false, false, false, false, false, false, false, false, false, false, false, false, false, false, false, false, false, false]) (d := some 95) rfl (by kernel_rfl) (by kernel_rfl) (by kernel_rfl) (by kernel_rfl) (fun _ _ _ h => h) HF.out rfl ?_ rfl rfl ?_ ?_
  rotate_left
  · intro w' hF; clear hF; go_simp; try rfl
  rotate_left
  · simp only [Act.put]; exact rfl
  refine Calm.take (i := 15) (v := ?_) (a' := ?_) (l' := #[true, true, true, true, true, true, true, true, true, true, true, true, true, true, true, true, false, false, false, false, false, false, false, false, false, false, false, false, false, false, false, false, false, false, false, false, false, false, false, false, false, false, false, false, false, false]) (d := some 96) rfl (by kernel_rfl) (by kernel_rfl) (by kernel_rfl) (by kernel_rfl) (fun _ _ _ h => h) HF.out (by kernel_rfl) ?_ rfl rfl ?_ ?_
  rotate_left
  · intro w' hF; have f10 := hF.2.1.box.cell0; have f11 := hF.2.1.box.cell1; have f20 := hF.2.2.1.box.cell0; have f21 := hF.2.2.1.box.cell1; have f30 := hF.2.2.2.1.box.cell0; have f31 := hF.2.2.2.1.box.cell1; have f40 := hF.2.2.2.2.1.box.cell0; have f41 := hF.2.2.2.2.1.box.cell1; have f50 := hF.2.2.2.2.2.1.box.cell0; have f51 := hF.2.2.2.2.2.1.box.cell1; clear hF; go_simp; try rfl
  rotate_left
  · simp only [Act.put]; exact rfl
  refine Calm.take (i := 16) (v := ?_) (a' := ?_) (l' := #[true, true, true, true, true, true, true, true, true, true, true, true, true, true, true, true, true, false, false, false, false, false, false, false, false, false, false, false, false, false, false, false, false, false, false, false, false, false, false, false, false, false, false, false, false, false]) (d := some 97) rfl (by kernel_rfl) (by kernel_rfl) (by kernel_rfl) (by kernel_rfl) (fun _ _ _ h => h) HF.out (by kernel_rfl) ?_ rfl rfl ?_ ?_
  rotate_left
  · intro w' hF; have f10 := hF.2.1.box.cell0; have f11 := hF.2.1.box.cell1; have f20 := hF.2.2.1.box.cell0; have f21 := hF.2.2.1.box.cell1; have f30 := hF.2.2.2.1.box.cell0; have f31 := hF.2.2.2.1.box.cell1; have f40 := hF.2.2.2.2.1.box.cell0; have f41 := hF.2.2.2.2.1.box.cell1; have f50 := hF.2.2.2.2.2.1.box.cell0; have f51 := hF.2.2.2.2.2.1.box.cell1; clear hF; go_simp; try rfl
  rotate_left
  · simp only [Act.put]; exact rfl
  refine Calm.one (i := 17) (l' := #[true, true, true, true, true, true, true, true, true, true, true, true, true, true, true, true, true, true, false, false, false, false, false, false, false, false, false, false, false, false, false, false, false, false, false, false, false, false, false, false, false, false, false, false, false, false]) (by kernel_rfl) rfl (by kernel_rfl) rfl fun K hK => ?_
  go_simp
  refine (isub_any _ _ (sg b0 (val xs)) (sg b0 (val xs)) _ HF.out.2.1.int HF.out.2.1.int (SzI.len SX.out (by decide)) (SzI.len SX.out (by decide))).mono ?_
  rintro e u6 ⟨v6, rfl, n, hb⟩
  try replace BX := hide (BX.out.step hb)
  have T6 := hide n
  clear n
  have HF' := hide (And.intro (HF.out.1.trans ((hb).mono HF.out.1.size)) (And.intro (HF.out.2.1.step (hb)) (And.intro (HF.out.2.2.1.step (hb)) (And.intro (HF.out.2.2.2.1.step (hb)) (And.intro (HF.out.2.2.2.2.1.step (hb)) (And.intro (HF.out.2.2.2.2.2.1.step (hb)) (HF.out.2.2.2.2.2.2.below (hb))))))))
  refine hK _ _ (fun _ => HF'.out) ?_
  clear hK K HF hb
  have HF := hide HF'.out
  clear HF'
  refine Calm.one (i := 18) (l' := #[true, true, true, true, true, true, true, true, true, true, true, true, true, true, true, true, true, true, true, false, false, false, false, false, false, false, false, false, false, false, false, false, false, false, false, false, false, false, false, false, false, false, false, false, false, false]) (by kernel_rfl) rfl (by kernel_rfl) rfl fun K hK => ?_
  go_simp
  refine (isign_zero _ ((sg b0 (val xs)) - (sg b0 (val xs))) _ T6.out (by omega)).mono ?_
  rintro e u7 ⟨rfl, hb⟩
  try replace BX := hide (BX.out.step hb)
  clear T6
  have HF' := hide (And.intro (HF.out.1.trans ((hb).mono HF.out.1.size)) (And.intro (HF.out.2.1.step (hb)) (And.intro (HF.out.2.2.1.step (hb)) (And.intro (HF.out.2.2.2.1.step (hb)) (And.intro (HF.out.2.2.2.2.1.step (hb)) (And.intro (HF.out.2.2.2.2.2.1.step (hb)) (HF.out.2.2.2.2.2.2.below (hb))))))))
  refine hK _ _ (fun _ => HF'.out) ?_
  clear hK K HF hb
  have HF := hide HF'.out
  clear HF'
  refine Calm.take (i := 19) (v := ?_) (a' := ?_) (l' := #[true, true, true, true, true, true, true, true, true, true, true, true, true, true, true, true, true, true, true, true, false, false, false, false, false, false, false, false, false, false, false, false, false, false, false, false, false, false, false, false, false, false, false, false, false, false]) (d := some 100) rfl (by kernel_rfl) (by kernel_rfl) (by kernel_rfl) (by kernel_rfl) (fun _ _ _ h => h) HF.out (by kernel_rfl) ?_ rfl rfl ?_ ?_
  rotate_left
  · intro w' hF; clear hF; go_simp; try rfl
  rotate_left
  · simp only [Act.put]; exact rfl
  refine Calm.take (i := 20) (v := ?_) (a' := ?_) (l' := #[true, true, true, true, true, true, true, true, true, true, true, true, true, true, true, true, true, true, true, true, true, false, false, false, false, false, false, false, false, false, false, false, false, false, false, false, false, false, false, false, false, false, false, false, false, false]) (d := some 101) rfl (by kernel_rfl) (by kernel_rfl) (by kernel_rfl) (by kernel_rfl) (fun _ _ _ h => h) HF.out rfl ?_ rfl rfl ?_ ?_
  rotate_left
  · intro w' hF; clear hF; go_simp; try rfl
  rotate_left
  · simp only [Act.put]; exact rfl
  refine Calm.take (i := 21) (v := ?_) (a' := ?_) (l' := #[true, true, true, true, true, true, true, true, true, true, true, true, true, true, true, true, true, true, true, true, true, true, false, false, false, false, false, false, false, false, false, false, false, false, false, false, false, false, false, false, false, false, false, false, false, false]) (d := some 102) rfl (by kernel_rfl) (by kernel_rfl) (by kernel_rfl) (by kernel_rfl) (fun _ _ _ h => h) HF.out rfl ?_ rfl rfl ?_ ?_
  rotate_left
  · intro w' hF; clear hF; go_simp; try rfl
  rotate_left
  · simp only [Act.put]; exact rfl
  refine Calm.take (i := 22) (v := ?_) (a' := ?_) (l' := #[true, true, true, true, true, true, true, true, true, true, true, true, true, true, true, true, true, true, true, true, true, true, true, false, false, false, false, false, false, false, false, false, false, false, false, false, false, false, false, false, false, false, false, false, false, false]) (d := some 103) rfl (by kernel_rfl) (by kernel_rfl) (by kernel_rfl) (by kernel_rfl) (fun _ _ _ h => h) HF.out (by kernel_rfl) ?_ rfl rfl ?_ ?_
  rotate_left
  · intro w' hF; have f10 := hF.2.1.box.cell0; have f11 := hF.2.1.box.cell1; have f20 := hF.2.2.1.box.cell0; have f21 := hF.2.2.1.box.cell1; have f30 := hF.2.2.2.1.box.cell0; have f31 := hF.2.2.2.1.box.cell1; have f40 := hF.2.2.2.2.1.box.cell0; have f41 := hF.2.2.2.2.1.box.cell1; have f50 := hF.2.2.2.2.2.1.box.cell0; have f51 := hF.2.2.2.2.2.1.box.cell1; clear hF; go_simp; try rfl
  rotate_left
  · simp only [Act.put]; exact rfl
  refine Calm.take (i := 23) (v := ?_) (a' := ?_) (l' := #[true, true, true, true, true, true, true, true, true, true, true, true, true, true, true, true, true, true, true, true, true, true, true, true, false, false, false, false, false, false, false, false, false, false, false, false, false, false, false, false, false, false, false, false, false, false]) (d := some 104) rfl (by kernel_rfl) (by kernel_rfl) (by kernel_rfl) (by kernel_rfl) (fun _ _ _ h => h) HF.out (by kernel_rfl) ?_ rfl rfl ?_ ?_
  rotate_left
  · intro w' hF; have f10 := hF.2.1.box.cell0; have f11 := hF.2.1.box.cell1; have f20 := hF.2.2.1.box.cell0; have f21 := hF.2.2.1.box.cell1; have f30 := hF.2.2.2.1.box.cell0; have f31 := hF.2.2.2.1.box.cell1; have f40 := hF.2.2.2.2.1.box.cell0; have f41 := hF.2.2.2.2.1.box.cell1; have f50 := hF.2.2.2.2.2.1.box.cell0; have f51 := hF.2.2.2.2.2.1.box.cell1; clear hF; go_simp; try rfl
  rotate_left
  · simp only [Act.put]; exact rfl
  refine Calm.take (i := 25) (v := ?_) (a' := ?_) (l' := #[true, true, true, true, true, true, true, true, true, true, true, true, true, true, true, true, true, true, true, true, true, true, true, true, false, true, false, false, false, false, false, false, false, false, false, false, false, false, false, false, false, false, false, false, false, false]) (d := some 106) rfl (by kernel_rfl) (by kernel_rfl) (by kernel_rfl) (by kernel_rfl) (fun _ _ _ h => h) HF.out (by kernel_rfl) ?_ rfl rfl ?_ ?_
  rotate_left
  · intro w' hF; have f10 := hF.2.1.box.cell0; have f11 := hF.2.1.box.cell1; have f20 := hF.2.2.1.box.cell0; have f21 := hF.2.2.1.box.cell1; have f30 := hF.2.2.2.1.box.cell0; have f31 := hF.2.2.2.1.box.cell1; have f40 := hF.2.2.2.2.1.box.cell0; have f41 := hF.2.2.2.2.1.box.cell1; have f50 := hF.2.2.2.2.2.1.box.cell0; have f51 := hF.2.2.2.2.2.1.box.cell1; clear hF; go_simp; try rfl
  rotate_left
  · simp only [Act.put]; exact rfl
  refine Calm.take (i := 27) (v := ?_) (a' := ?_) (l' := #[true, true, true, true, true, true, true, true, true, true, true, true, true, true, true, true, true, true, true, true, true, true, true, true, false, true, false, true, false, false, false, false, false, false, false, false, false, false, false, false, false, false, false, false, false, false]) (d := some 108) rfl (by kernel_rfl) (by kernel_rfl) (by kernel_rfl) (by kernel_rfl) (fun _ _ _ h => h) HF.out (by kernel_rfl) ?_ rfl rfl ?_ ?_
  rotate_left
  · intro w' hF; have f10 := hF.2.1.box.cell0; have f11 := hF.2.1.box.cell1; have f20 := hF.2.2.1.box.cell0; have f21 := hF.2.2.1.box.cell1; have f30 := hF.2.2.2.1.box.cell0; have f31 := hF.2.2.2.1.box.cell1; have f40 := hF.2.2.2.2.1.box.cell0; have f41 := hF.2.2.2.2.1.box.cell1; have f50 := hF.2.2.2.2.2.1.box.cell0; have f51 := hF.2.2.2.2.2.1.box.cell1; clear hF; go_simp; try rfl
  rotate_left
  · simp only [Act.put]; exact rfl
  refine Calm.one (i := 24) (l' := #[true, true, true, true, true, true, true, true, true, true, true, true, true, true, true, true, true, true, true, true, true, true, true, true, true, true, false, true, false, false, false, false, false, false, false, false, false, false, false, false, false, false, false, false, false, false]) (by kernel_rfl) rfl (by kernel_rfl) rfl fun K hK => ?_
  go_simp
  refine (iadd_any _ _ (sg b0 (val xs)) (sg b1 (val ys)) _ HF.out.2.1.int HF.out.2.2.1.int (SzI.len SX.out (by decide)) (SzI.len SY.out (by decide))).mono ?_
  rintro e u8 ⟨v8, rfl, n, hb⟩
  try replace BX := hide (BX.out.step hb)
  have T7 := hide n
  clear n
  have HF' := hide (And.intro (HF.out.1.trans ((hb).mono HF.out.1.size)) (And.intro (HF.out.2.1.step (hb)) (And.intro (HF.out.2.2.1.step (hb)) (And.intro (HF.out.2.2.2.1.step (hb)) (And.intro (HF.out.2.2.2.2.1.step (hb)) (And.intro (HF.out.2.2.2.2.2.1.step (hb)) (HF.out.2.2.2.2.2.2.below (hb))))))))
  refine hK _ _ (fun _ => HF'.out) ?_
  clear hK K HF hb
  have HF := hide HF'.out
  clear HF'
  refine Calm.one (i := 26) (l' := #[true, true, true, true, true, true, true, true, true, true, true, true, true, true, true, true, true, true, true, true, true, true, true, true, true, true, true, true, false, false, false, false, false, false, false, false, false, false, false, false, false, false, false, false, false, false]) (by kernel_rfl) rfl (by kernel_rfl) rfl fun K hK => ?_
  go_simp
  refine (isub_any _ _ ((sg b0 (val xs)) + (sg b1 (val ys))) (sg b1 (val ys)) _ T7.out HF.out.2.2.1.int (SzI.len (SzI.add SX.out SY.out) (by decide)) (SzI.len SY.out (by decide))).mono ?_
  rintro e u9 ⟨v9, rfl, n, hb⟩
  try replace BX := hide (BX.out.step hb)
  clear T7
  have T8 := hide n
  clear n
  have HF' := hide (And.intro (HF.out.1.trans ((hb).mono HF.out.1.size)) (And.intro (HF.out.2.1.step (hb)) (And.intro (HF.out.2.2.1.step (hb)) (And.intro (HF.out.2.2.2.1.step (hb)) (And.intro (HF.out.2.2.2.2.1.step (hb)) (And.intro (HF.out.2.2.2.2.2.1.step (hb)) (HF.out.2.2.2.2.2.2.below (hb))))))))
  refine hK _ _ (fun _ => HF'.out) ?_
  clear hK K HF hb
  have HF := hide HF'.out
  clear HF'
  refine Calm.one (i := 28) (l' := #[true, true, true, true, true, true, true, true, true, true, true, true, true, true, true, true, true, true, true, true, true, true, true, true, true, true, true, true, true, false, false, false, false, false, false, false, false, false, false, false, false, false, false, false, false, false]) (by kernel_rfl) rfl (by kernel_rfl) rfl fun K hK => ?_
  go_simp
  refine (icmp_same _ _ (((sg b0 (val xs)) + (sg b1 (val ys))) - (sg b1 (val ys))) (sg b0 (val xs)) _ T8.out HF.out.2.1.int (by omega)).mono ?_
  rintro e u10 ⟨rfl, hb⟩
  try replace BX := hide (BX.out.step hb)
  clear T8
  have HF' := hide (And.intro (HF.out.1.trans ((hb).mono HF.out.1.size)) (And.intro (HF.out.2.1.step (hb)) (And.intro (HF.out.2.2.1.step (hb)) (And.intro (HF.out.2.2.2.1.step (hb)) (And.intro (HF.out.2.2.2.2.1.step (hb)) (And.intro (HF.out.2.2.2.2.2.1.step (hb)) (HF.out.2.2.2.2.2.2.below (hb))))))))
  refine hK _ _ (fun _ => HF'.out) ?_
  clear hK K HF hb
  have HF := hide HF'.out
  clear HF'
  refine Calm.take (i := 29) (v := ?_) (a' := ?_) (l' := #[true, true, true, true, true, true, true, true, true, true, true, true, true, true, true, true, true, true, true, true, true, true, true, true, true, true, true, true, true, true, false, false, false, false, false, false, false, false, false, false, false, false, false, false, false, false]) (d := some 110) rfl (by kernel_rfl) (by kernel_rfl) (by kernel_rfl) (by kernel_rfl) (fun _ _ _ h => h) HF.out (by kernel_rfl) ?_ rfl rfl ?_ ?_
  rotate_left
  · intro w' hF; clear hF; go_simp; try rfl
  rotate_left
  · simp only [Act.put]; exact rfl
  refine Calm.take (i := 30) (v := ?_) (a' := ?_) (l' := #[true, true, true, true, true, true, true, true, true, true, true, true, true, true, true, true, true, true, true, true, true, true, true, true, true, true, true, true, true, true, true, false, false, false, false, false, false, false, false, false, false, false, false, false, false, false]) (d := some 111) rfl (by kernel_rfl) (by kernel_rfl) (by kernel_rfl) (by kernel_rfl) (fun _ _ _ h => h) HF.out rfl ?_ rfl rfl ?_ ?_
  rotate_left
  · intro w' hF; clear hF; go_simp; try rfl
  rotate_left
  · simp only [Act.put]; exact rfl
  refine Calm.take (i := 31) (v := ?_) (a' := ?_) (l' := #[true, true, true, true, true, true, true, true, true, true, true, true, true, true, true, true, true, true, true, true, true, true, true, true, true, true, true, true, true, true, true, true, false, false, false, false, false, false, false, false, false, false, false, false, false, false]) (d := some 112) rfl (by kernel_rfl) (by kernel_rfl) (by kernel_rfl) (by kernel_rfl) (fun _ _ _ h => h) HF.out rfl ?_ rfl rfl ?_ ?_
  rotate_left
  · intro w' hF; clear hF; go_simp; try rfl
  rotate_left
  · simp only [Act.put]; exact rfl
  refine Calm.one (i := 32) (l' := #[true, true, true, true, true, true, true, true, true, true, true, true, true, true, true, true, true, true, true, true, true, true, true, true, true, true, true, true, true, true, true, true, true, false, false, false, false, false, false, false, false, false, false, false, false, false]) (by kernel_rfl) rfl (by kernel_rfl) rfl fun K hK => ?_
  go_simp
  refine (isum_none _).mono ?_
  rintro e u11 ⟨v11, rfl, n, hb⟩
  try replace BX := hide (BX.out.step hb)
  have T9 := hide n
  clear n
  have HF' := hide (And.intro (HF.out.1.trans ((hb).mono HF.out.1.size)) (And.intro (HF.out.2.1.step (hb)) (And.intro (HF.out.2.2.1.step (hb)) (And.intro (HF.out.2.2.2.1.step (hb)) (And.intro (HF.out.2.2.2.2.1.step (hb)) (And.intro (HF.out.2.2.2.2.2.1.step (hb)) (HF.out.2.2.2.2.2.2.below (hb))))))))
  refine hK _ _ (fun _ => HF'.out) ?_
  clear hK K HF hb
  have HF := hide HF'.out
  clear HF'
  refine Calm.one (i := 33) (l' := #[true, true, true, true, true, true, true, true, true, true, true, true, true, true, true, true, true, true, true, true, true, true, true, true, true, true, true, true, true, true, true, true, true, true, false, false, false, false, false, false, false, false, false, false, false, false]) (by kernel_rfl) rfl (by kernel_rfl) rfl fun K hK => ?_
  go_simp
  refine (isign_zero _ 0 _ T9.out (rfl)).mono ?_
  rintro e u12 ⟨rfl, hb⟩
  try replace BX := hide (BX.out.step hb)
  clear T9
  have HF' := hide (And.intro (HF.out.1.trans ((hb).mono HF.out.1.size)) (And.intro (HF.out.2.1.step (hb)) (And.intro (HF.out.2.2.1.step (hb)) (And.intro (HF.out.2.2.2.1.step (hb)) (And.intro (HF.out.2.2.2.2.1.step (hb)) (And.intro (HF.out.2.2.2.2.2.1.step (hb)) (HF.out.2.2.2.2.2.2.below (hb))))))))
  refine hK _ _ (fun _ => HF'.out) ?_
  clear hK K HF hb
  have HF := hide HF'.out
  clear HF'
  refine Calm.take (i := 34) (v := ?_) (a' := ?_) (l' := #[true, true, true, true, true, true, true, true, true, true, true, true, true, true, true, true, true, true, true, true, true, true, true, true, true, true, true, true, true, true, true, true, true, true, true, false, false, false, false, false, false, false, false, false, false, false]) (d := some 115) rfl (by kernel_rfl) (by kernel_rfl) (by kernel_rfl) (by kernel_rfl) (fun _ _ _ h => h) HF.out (by kernel_rfl) ?_ rfl rfl ?_ ?_
  rotate_left
  · intro w' hF; clear hF; go_simp; try rfl
  rotate_left
  · simp only [Act.put]; exact rfl
  refine Calm.take (i := 35) (v := ?_) (a' := ?_) (l' := #[true, true, true, true, true, true, true, true, true, true, true, true, true, true, true, true, true, true, true, true, true, true, true, true, true, true, true, true, true, true, true, true, true, true, true, true, false, false, false, false, false, false, false, false, false, false]) (d := some 116) rfl (by kernel_rfl) (by kernel_rfl) (by kernel_rfl) (by kernel_rfl) (fun _ _ _ h => h) HF.out rfl ?_ rfl rfl ?_ ?_
  rotate_left
  · intro w' hF; clear hF; go_simp; try rfl
  rotate_left
  · simp only [Act.put]; exact rfl
  refine Calm.take (i := 36) (v := ?_) (a' := ?_) (l' := #[true, true, true, true, true, true, true, true, true, true, true, true, true, true, true, true, true, true, true, true, true, true, true, true, true, true, true, true, true, true, true, true, true, true, true, true, true, false, false, false, false, false, false, false, false, false]) (d := some 117) rfl (by kernel_rfl) (by kernel_rfl) (by kernel_rfl) (by kernel_rfl) (fun _ _ _ h => h) HF.out rfl ?_ rfl rfl ?_ ?_
  rotate_left
  · intro w' hF; clear hF; go_simp; try rfl
  rotate_left
  · simp only [Act.put]; exact rfl
  refine Calm.one (i := 37) (l' := #[true, true, true, true, true, true, true, true, true, true, true, true, true, true, true, true, true, true, true, true, true, true, true, true, true, true, true, true, true, true, true, true, true, true, true, true, true, true, false, false, false, false, false, false, false, false]) (by kernel_rfl) rfl (by kernel_rfl) rfl fun K hK => ?_
  go_simp
  refine (live_any _).mono ?_
  rintro e u13 ⟨rfl, hb⟩
  try replace BX := hide (BX.out.step hb)
  have HF' := hide (And.intro (HF.out.1.trans ((hb).mono HF.out.1.size)) (And.intro (HF.out.2.1.step (hb)) (And.intro (HF.out.2.2.1.step (hb)) (And.intro (HF.out.2.2.2.1.step (hb)) (And.intro (HF.out.2.2.2.2.1.step (hb)) (And.intro (HF.out.2.2.2.2.2.1.step (hb)) (HF.out.2.2.2.2.2.2.below (hb))))))))
  refine hK _ _ (fun _ => HF'.out) ?_
  clear hK K HF hb
  have HF := hide HF'.out
  clear HF'
  refine Calm.take (i := 38) (v := ?_) (a' := ?_) (l' := #[true, true, true, true, true, true, true, true, true, true, true, true, true, true, true, true, true, true, true, true, true, true, true, true, true, true, true, true, true, true, true, true, true, true, true, true, true, true, true, false, false, false, false, false, false, false]) (d := some 119) rfl (by kernel_rfl) (by kernel_rfl) (by kernel_rfl) (by kernel_rfl) (fun _ _ _ h => h) HF.out rfl ?_ rfl rfl ?_ ?_
  rotate_left
  · intro w' hF; clear hF; go_simp; try rfl
  rotate_left
  · simp only [Act.put]; exact rfl
  refine Calm.take (i := 39) (v := ?_) (a' := ?_) (l' := #[true, true, true, true, true, true, true, true, true, true, true, true, true, true, true, true, true, true, true, true, true, true, true, true, true, true, true, true, true, true, true, true, true, true, true, true, true, true, true, true, false, false, false, false, false, false]) (d := some 120) rfl (by kernel_rfl) (by kernel_rfl) (by kernel_rfl) (by kernel_rfl) (fun _ _ _ h => h) HF.out rfl ?_ rfl rfl ?_ ?_
  rotate_left
  · intro w' hF; clear hF; go_simp; try rfl
  rotate_left
  · simp only [Act.put]; exact rfl
  refine Calm.one (i := 40) (l' := #[true, true, true, true, true, true, true, true, true, true, true, true, true, true, true, true, true, true, true, true, true, true, true, true, true, true, true, true, true, true, true, true, true, true, true, true, true, true, true, true, true, false, false, false, false, false]) (by kernel_rfl) rfl (by kernel_rfl) rfl fun K hK => ?_
  go_simp
  refine (iproduct_none _).mono ?_
  rintro e u14 ⟨v14, rfl, n, hb⟩
  try replace BX := hide (BX.out.step hb)
  have T10 := hide n
  clear n
  have HF' := hide (And.intro (HF.out.1.trans ((hb).mono HF.out.1.size)) (And.intro (HF.out.2.1.step (hb)) (And.intro (HF.out.2.2.1.step (hb)) (And.intro (HF.out.2.2.2.1.step (hb)) (And.intro (HF.out.2.2.2.2.1.step (hb)) (And.intro (HF.out.2.2.2.2.2.1.step (hb)) (HF.out.2.2.2.2.2.2.below (hb))))))))
  refine hK _ _ (fun _ => HF'.out) ?_
  clear hK K HF hb
  have HF := hide HF'.out
  clear HF'
  refine Calm.one (i := 41) (l' := #[true, true, true, true, true, true, true, true, true, true, true, true, true, true, true, true, true, true, true, true, true, true, true, true, true, true, true, true, true, true, true, true, true, true, true, true, true, true, true, true, true, true, false, false, false, false]) (by kernel_rfl) rfl (by kernel_rfl) rfl fun K hK => ?_
  go_simp
  refine (iof_any 1 _ (by decide) (by decide)).mono ?_
  rintro e u15 ⟨v15, rfl, n, hb⟩
  try replace BX := hide (BX.out.step hb)
  replace T10 := hide (T10.out.below hb)
  have T11 := hide n
  clear n
  have HF' := hide (And.intro (HF.out.1.trans ((hb).mono HF.out.1.size)) (And.intro (HF.out.2.1.step (hb)) (And.intro (HF.out.2.2.1.step (hb)) (And.intro (HF.out.2.2.2.1.step (hb)) (And.intro (HF.out.2.2.2.2.1.step (hb)) (And.intro (HF.out.2.2.2.2.2.1.step (hb)) (HF.out.2.2.2.2.2.2.below (hb))))))))
  refine hK _ _ (fun _ => HF'.out) ?_
  clear hK K HF hb
  have HF := hide HF'.out
  clear HF'
  refine Calm.one (i := 42) (l' := #[true, true, true, true, true, true, true, true, true, true, true, true, true, true, true, true, true, true, true, true, true, true, true, true, true, true, true, true, true, true, true, true, true, true, true, true, true, true, true, true, true, true, true, false, false, false]) (by kernel_rfl) rfl (by kernel_rfl) rfl fun K hK => ?_
  go_simp
  refine (icmp_same _ _ 1 1 _ T10.out T11.out (rfl)).mono ?_
  rintro e u16 ⟨rfl, hb⟩
  try replace BX := hide (BX.out.step hb)
  clear T10
  clear T11
  have HF' := hide (And.intro (HF.out.1.trans ((hb).mono HF.out.1.size)) (And.intro (HF.out.2.1.step (hb)) (And.intro (HF.out.2.2.1.step (hb)) (And.intro (HF.out.2.2.2.1.step (hb)) (And.intro (HF.out.2.2.2.2.1.step (hb)) (And.intro (HF.out.2.2.2.2.2.1.step (hb)) (HF.out.2.2.2.2.2.2.below (hb))))))))
  refine hK _ _ (fun _ => HF'.out) ?_
  clear hK K HF hb
  have HF := hide HF'.out
  clear HF'
  refine Calm.take (i := 43) (v := ?_) (a' := ?_) (l' := #[true, true, true, true, true, true, true, true, true, true, true, true, true, true, true, true, true, true, true, true, true, true, true, true, true, true, true, true, true, true, true, true, true, true, true, true, true, true, true, true, true, true, true, true, false, false]) (d := some 124) rfl (by kernel_rfl) (by kernel_rfl) (by kernel_rfl) (by kernel_rfl) (fun _ _ _ h => h) HF.out (by kernel_rfl) ?_ rfl rfl ?_ ?_
  rotate_left
  · intro w' hF; clear hF; go_simp; try rfl
  rotate_left
  · simp only [Act.put]; exact rfl
  refine Calm.take (i := 44) (v := ?_) (a' := ?_) (l' := #[true, true, true, true, true, true, true, true, true, true, true, true, true, true, true, true, true, true, true, true, true, true, true, true, true, true, true, true, true, true, true, true, true, true, true, true, true, true, true, true, true, true, true, true, true, false]) (d := some 125) rfl (by kernel_rfl) (by kernel_rfl) (by kernel_rfl) (by kernel_rfl) (fun _ _ _ h => h) HF.out rfl ?_ rfl rfl ?_ ?_
  rotate_left
  · intro w' hF; clear hF; go_simp; try rfl
  rotate_left
  · simp only [Act.put]; exact rfl
  refine Calm.take (i := 45) (v := ?_) (a' := ?_) (l' := #[true, true, true, true, true, true, true, true, true, true, true, true, true, true, true, true, true, true, true, true, true, true, true, true, true, true, true, true, true, true, true, true, true, true, true, true, true, true, true, true, true, true, true, true, true, true]) (d := some 6) rfl (by kernel_rfl) (by kernel_rfl) (by kernel_rfl) (by kernel_rfl) (fun _ _ _ h => h) HF.out rfl ?_ rfl rfl ?_ ?_
  rotate_left
  · intro w' hF; clear hF; go_simp; try rfl
  rotate_left
  · simp only [Act.put]; exact rfl
  refine Calm.done (by kernel_rfl) ?_
  go_wp2
  go_ret
  exact ⟨rfl, HF.out.1⟩
end Go.Proofs.Ytafmpcfnkgiheac
