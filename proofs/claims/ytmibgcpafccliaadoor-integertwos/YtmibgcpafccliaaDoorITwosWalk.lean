/- swagelaw02.IntegerTwos answers true at all numbers and all numbers of bits, and turns nothing that was there. -/
import Derived.Test.YtmibgcpafccliaaDoorITwoP
import Derived.Test.YtmibgcpafccliaaDoorR2Two
import Derived.Test.YtmibgcpafccliaaDoorR2Over
import Derived.Test.YtmibgcpafccliaaDoorIBits
import Derived.Test.YtmibgcpafccliaaDoorIZero
import Derived.Test.YtmibgcpafccliaaDoorCalm3
import Derived.Deep.Cut
namespace Go.Proofs.YtmibgcpafccliaaDoor
open Go.RowKit

theorem len_alike {x : Int} {L M : Nat} (h : IsLen x.natAbs L) (h0 : L ≤ 32 * (lim x.natAbs).length) (k : IsLen x.natAbs M) (k0 : M ≤ 16 * (D.lim x.natAbs).length) : M = L := by
  rcases Nat.eq_zero_or_pos x.natAbs with e | e
  · rw [e, lim_zero] at h0
    rw [e, D.lim_zero] at k0
    simp at h0 k0
    omega
  · exact k.onlyL h e
def TwCase (z n rl el rr er : Int) : Prop := (n < 0 ∧ rl = 0 ∧ el = 2 ∧ rr = 0 ∧ er = 2) ∨ (65536 < n ∧ rl = 0 ∧ el = 3 ∧ rr = 0 ∧ ((z = 0 ∧ er = 0) ∨ (z ≠ 0 ∧ er = 20))) ∨
  (∃ k : Nat, n = (k : Int) ∧ k ≤ 3000 ∧ rl = z * ((2 ^ k : Nat) : Int) ∧ el = 0 ∧ ((z % ((2 ^ k : Nat) : Int) = 0 ∧ rr = z / ((2 ^ k : Nat) : Int) ∧ er = 0) ∨ (z % ((2 ^ k : Nat) : Int) ≠ 0 ∧ rr = 0 ∧ er = 20)))
theorem SzI.len6 {k : Nat} {z : Int} (h : SzI k z) (hk : k ≤ 1000000) : (lim z.natAbs).length ≤ 1000000 := Nat.le_trans (lim_length_le h) hk
theorem dlen2 {z : Int} (h : SzI 60 z) : (D.lim z.natAbs).length ≤ 120 := by
  refine D.lim_length_le ?_
  unfold SzI at h
  rwa [show BB = D.BB ^ 2 from rfl, ← Nat.pow_mul] at h
theorem dlen7P {z : Int} (h : SzI 94 z) : (D.lim z.natAbs).length ≤ 10000000 := by
  refine Nat.le_trans (D.lim_length_le (k := 188) ?_) (by decide)
  unfold SzI at h
  rwa [show BB = D.BB ^ 2 from rfl, ← Nat.pow_mul] at h
theorem szi_pow {k j : Nat} (h : k < 32 * j) : SzI j ((2 ^ k : Nat) : Int) := by
  unfold SzI
  rw [Int.natAbs_natCast, show BB = 2 ^ 32 from rfl, ← Nat.pow_mul]
  exact Nat.pow_lt_pow_right (by decide) h
theorem pow_not {z : Int} {j n : Nat} (h : SzI j z) (hz : z ≠ 0) (hn : 32 * j ≤ n) : ¬ ((2 ^ n : Nat) : Int) ∣ z := fun hd => by
  have h1 := Nat.le_of_dvd (by omega) (Int.ofNat_dvd_left.1 hd)
  unfold SzI at h
  rw [show BB = 2 ^ 32 from rfl, ← Nat.pow_mul] at h
  exact absurd (Nat.lt_of_le_of_lt h1 h) (Nat.not_lt.2 (Nat.pow_le_pow_right (by decide) hn))
theorem tw_case {z n : Int} (hz : SzI 60 z) (hn : n ≤ 9223372036854775807) (hg : ¬ (3000 < n ∧ n ≤ 65536)) : ∃ rl el rr er, ShlP z n rl el ∧ ShrP z n rr er ∧ TwCase z n rl el rr er := by
  have hl := hz.len6 (by decide)
  by_cases h0 : n < 0
  · exact ⟨0, 2, 0, 2, shlP_neg z n h0, shrP_neg z n h0 hl, .inl ⟨h0, rfl, rfl, rfl, rfl⟩⟩
  · obtain ⟨k, rfl⟩ : ∃ k : Nat, n = (k : Int) := ⟨n.toNat, by omega⟩
    by_cases h1 : 65536 < k
    · by_cases hz0 : z = 0
      · exact ⟨0, 3, 0, 0, shlP_big z k h1, shrP_exact z 0 k (by omega) (by rw [hz0, Int.zero_mul]) hl, .inr (.inl ⟨by omega, rfl, rfl, rfl, .inl ⟨hz0, rfl⟩⟩)⟩
      · exact ⟨0, 3, 0, 20, shlP_big z k h1, shrP_not z k (pow_not hz hz0 (by omega)) hl, .inr (.inl ⟨by omega, rfl, rfl, rfl, .inr ⟨hz0, rfl⟩⟩)⟩
    · by_cases hd : z % ((2 ^ k : Nat) : Int) = 0
      · exact ⟨_, 0, z / ((2 ^ k : Nat) : Int), 0, shlP_ok z k (by omega) hl, shrP_exact z _ k (by omega) (Int.ediv_mul_cancel (Int.dvd_of_emod_eq_zero hd)).symm hl, .inr (.inr ⟨k, rfl, by omega, rfl, rfl, .inl ⟨hd, rfl, rfl⟩⟩)⟩
      · exact ⟨_, 0, 0, 20, shlP_ok z k (by omega) hl, shrP_not z k (fun h => hd (Int.emod_eq_zero_of_dvd h)) hl, .inr (.inr ⟨k, rfl, by omega, rfl, rfl, .inr ⟨hd, rfl, rfl⟩⟩)⟩

set_option maxRecDepth 100000 in
set_option maxHeartbeats 20000000 in
theorem itwos_walk (b0 : Bool) (a0 : Option Addr) (c0 : Nat) (xs : List Nat) (n : Int) (w : World) (h0 : Nums w (.slice a0 xs.length c0) xs) (hn : -9223372036854775808 ≤ n ∧ n ≤ 9223372036854775807) (hT : TabW w) :
    Calls Tryd.prog 5 #[.agg #[.bool b0, .slice a0 xs.length c0], .int .i64 n] w fun e w' => e = .returned (.bool true) ∧ Below w.heap.size w w' := by
  have hm0 := nums_len h0
  have HM := hide hm0
  unfold maxLen at hm0
  have HT := hide hT
  have HN0 := hide h0
  clear h0 hT
  have HE := hide (nboxes1 41 w (.bool b0) (.slice a0 xs.length c0))
  have HB := hide (HE.out.2)
  have P0 := hide (HE.out.1)
  replace HN0 := hide (HN0.out.below HE.out.2)
  clear HE
  go_enter Tryd.func5, Tryd.ntmps5
  go_wp2_with fail
  refine (live_any _).mono ?_
  rintro e w1 ⟨rfl, hb⟩
  replace HB := hide (HB.out.trans ((hb).mono HB.out.size))
  replace P0 := hide (P0.out.step (hb))
  replace HN0 := hide (HN0.out.below (hb))
  have p0 := P0.out.cell0
  have p1 := P0.out.cell1
  clear hb
  go_wp2_with fail
  refine (long_any _ [xs.length] _ (lens_lit _ _ (by simp [maxLen]) (by
    intro i hi
    match i, hi with
    | 0, _ => exact ⟨a0, c0, by simp, HM.out⟩))).mono ?_
  rintro e w2 ⟨he, hb⟩
  clear p0 p1
  have hb' := (below_alloc w1 _).trans (hb.mono (by simp))
  replace HB := hide (HB.out.trans ((hb').mono HB.out.size))
  replace P0 := hide (P0.out.step (hb'))
  replace HN0 := hide (HN0.out.below (hb'))
  clear hb hb'
  cases hq : [xs.length].any (fun m => decide (60 < m)) with
  | true =>
    rw [hq] at he
    subst he
    clear hq
    go_wp2
    go_ret
    exact ⟨rfl, HB.out⟩
  | false =>
  rw [hq] at he
  subst he
  have g0 : xs.length ≤ 60 := by
    simp at hq; omega
  clear hq
  by_cases hg : 3000 < n ∧ n ≤ 65536
  · obtain ⟨hg1, hg2⟩ := hg
    go_wp2
    go_ret
    exact ⟨rfl, HB.out⟩
  have SX : Hid (SzI 60 (sg b0 (val xs))) := SzI.of HN0.out.ok g0
  have HG := hide hg
  clear hg
  have hg3 : ((3000 : Int) < n ∧ ¬ n ≤ 65536) ∨ ¬ (3000 : Int) < n := by have := HG.out; omega
  rcases hg3 with ⟨hg1, hg2⟩ | hg1
  · have p0 := P0.out.cell0
    have p1 := P0.out.cell1
    go_wp2_with fail
    refine (of_any b0 a0 c0 xs _ HN0.out (by omega)).mono ?_
    rintro e q0 ⟨v, u, rfl, hI, hR, hb⟩
    generalize sg b0 (val xs) = z at *
    obtain ⟨sx, nx, mx, kx, rfl, hnn, he, h0⟩ := hI
    obtain ⟨sp, np, mp, kp, rfl, hn', he', h0'⟩ := hR
    clear p0 p1
    replace HB := hide (HB.out.trans ((hb).mono HB.out.size))
    replace P0 := hide (P0.out.step (hb))
    replace HN0 := hide (HN0.out.below (hb))
    have hI : IntAt q0 (.agg #[.bool sx, .slice mx (lim nx).length kx]) z := ⟨sx, nx, mx, kx, rfl, hnn, he, h0⟩
    have hR : RInt q0 (.agg #[.bool sp, .slice mp (D.lim np).length kp]) z := ⟨sp, np, mp, kp, rfl, hn', he', h0'⟩
    replace HB := hide (HB.out.trans ((below_alloc q0 (.cells #[.bool sx, .slice mx (lim nx).length kx] 44)).mono HB.out.size))
    replace P0 := hide (P0.out.step (below_alloc q0 (.cells #[.bool sx, .slice mx (lim nx).length kx] 44)))
    replace HN0 := hide (HN0.out.below (below_alloc q0 (.cells #[.bool sx, .slice mx (lim nx).length kx] 44)))
    have VX := hide (hI.var)
    have hR2 := hR.below (below_alloc q0 (.cells #[.bool sx, .slice mx (lim nx).length kx] 44))
    replace HB := hide (HB.out.trans ((below_alloc (q0.alloc (.cells #[.bool sx, .slice mx (lim nx).length kx] 44)) (.cells #[.bool sp, .slice mp (D.lim np).length kp] 46)).mono HB.out.size))
    replace P0 := hide (P0.out.step (below_alloc (q0.alloc (.cells #[.bool sx, .slice mx (lim nx).length kx] 44)) (.cells #[.bool sp, .slice mp (D.lim np).length kp] 46)))
    replace HN0 := hide (HN0.out.below (below_alloc (q0.alloc (.cells #[.bool sx, .slice mx (lim nx).length kx] 44)) (.cells #[.bool sp, .slice mp (D.lim np).length kp] 46)))
    replace VX := hide (VX.out.step (below_alloc (q0.alloc (.cells #[.bool sx, .slice mx (lim nx).length kx] 44)) (.cells #[.bool sp, .slice mp (D.lim np).length kp] 46)))
    have VP := hide (hR2.var)
    rw [World.size_alloc] at VP
    clear hb hnn he h0 hn' he' h0' hI hR hR2 g0 hm0
    clear P0
    clear HN0
    go_upto_region 6 with fail
    generalize (q0.alloc (.cells #[.bool sx, .slice mx (lim nx).length kx] 44)).alloc (.cells #[.bool sp, .slice mp (D.lim np).length kp] 46) = w7 at *
    generalize q0.heap.size = gx at *
    generalize (lim nx).length = lx at *
    generalize (D.lim np).length = lp at *
    obtain ⟨rl, el, rr, er, hsl, hsr, hcase⟩ := tw_case SX.out hn.2 HG.out
    have HSL := hide hsl
    have HSR := hide hsr
    have HC := hide hcase
    clear hsl hsr hcase HG HM
    refine wp_calm (fun w' => Below w.heap.size w w' ∧ Var w' gx sx mx lx kx z ∧ RVar w' (gx + 1) sp mp lp kp z) (fun _ => true) 12 #[false, false, false, false, false, false, false, false, false, false, false, false] (by kernel_rfl) rfl rfl ?_
    have HF := hide (And.intro (HB.out.drew) (And.intro (VX.out.drew) (VP.out.drew)))
    generalize w7.drew = w7d at *
    refine Calm.take (i := 0) (v := ?_) (a' := ?_) (l' := #[true, false, false, false, false, false, false, false, false, false, false, false]) (d := some 34) rfl (by kernel_rfl) (by kernel_rfl) (by kernel_rfl) (by kernel_rfl) (fun _ _ _ h => h) HF.out rfl ?_ rfl rfl ?_ ?_
    rotate_left
    · intro w' hF; have f10 := hF.2.1.box.cell0; have f11 := hF.2.1.box.cell1; have f20 := hF.2.2.box.cell0; have f21 := hF.2.2.box.cell1; clear hF; go_simp; try rfl
    rotate_left
    · simp only [Act.put]; exact rfl
    refine Calm.take (i := 2) (v := ?_) (a' := ?_) (l' := #[true, false, true, false, false, false, false, false, false, false, false, false]) (d := some 36) rfl (by kernel_rfl) (by kernel_rfl) (by kernel_rfl) (by kernel_rfl) (fun _ _ _ h => h) HF.out rfl ?_ rfl rfl ?_ ?_
    rotate_left
    · intro w' hF; have f10 := hF.2.1.box.cell0; have f11 := hF.2.1.box.cell1; have f20 := hF.2.2.box.cell0; have f21 := hF.2.2.box.cell1; clear hF; go_simp; try rfl
    rotate_left
    · simp only [Act.put]; exact rfl
    refine Calm.one (i := 1) (l' := #[true, true, true, false, false, false, false, false, false, false, false, false]) (by kernel_rfl) rfl rfl rfl fun K hK => ?_
    go_simp
    refine (itwos_any _ z _ HF.out.2.1.int (HT.out.below HF.out.1) (SX.out.len6 (by decide))).mono ?_
    rintro e t1 ⟨tw, rfl, htw, hb⟩
    have HTW := hide htw
    clear htw
    have HF' := hide (And.intro (HF.out.1.trans ((hb).mono HF.out.1.size)) (And.intro (HF.out.2.1.step (hb)) (HF.out.2.2.step (hb))))
    refine hK _ _ (fun _ => HF'.out) ?_
    clear hK K HF hb
    have HF := hide HF'.out
    clear HF'
    refine Calm.one (i := 3) (l' := #[true, true, true, true, false, false, false, false, false, false, false, false]) (by kernel_rfl) rfl rfl rfl fun K hK => ?_
    go_simp
    refine (rtwoz_any _ z _ HF.out.2.2.int (Nat.le_trans (dlen2 SX.out) (by decide))).mono ?_
    rintro e t2 ⟨tw2, rfl, htw2, hb⟩
    obtain rfl := HTW.out.only htw2
    clear htw2 HTW
    have HF' := hide (And.intro (HF.out.1.trans ((hb).mono HF.out.1.size)) (And.intro (HF.out.2.1.step (hb)) (HF.out.2.2.step (hb))))
    refine hK _ _ (fun _ => HF'.out) ?_
    clear hK K HF hb
    have HF := hide HF'.out
    clear HF'
    refine Calm.take (i := 4) (v := ?_) (a' := ?_) (l' := #[true, true, true, true, true, false, false, false, false, false, false, false]) (d := some 38) rfl (by kernel_rfl) (by kernel_rfl) (by kernel_rfl) (by kernel_rfl) (fun _ _ _ h => h) HF.out rfl ?_ rfl rfl ?_ ?_
    rotate_left
    · intro w' hF; clear hF; go_simp; try rfl
    rotate_left
    · simp only [Act.put]; exact rfl
    refine Calm.take (i := 5) (v := ?_) (a' := ?_) (l' := #[true, true, true, true, true, true, false, false, false, false, false, false]) (d := some 39) rfl (by kernel_rfl) (by kernel_rfl) (by kernel_rfl) (by kernel_rfl) (fun _ _ _ h => h) HF.out rfl ?_ rfl rfl ?_ ?_
    rotate_left
    · intro w' hF; clear hF; go_simp; try rfl
    rotate_left
    · simp only [Act.put]; exact rfl
    refine Calm.take (i := 6) (v := ?_) (a' := ?_) (l' := #[true, true, true, true, true, true, true, false, false, false, false, false]) (d := some 40) rfl (by kernel_rfl) (by kernel_rfl) (by kernel_rfl) (by kernel_rfl) (fun _ _ _ h => h) HF.out (by kernel_rfl) ?_ rfl rfl ?_ ?_
    rotate_left
    · intro w' hF; have f10 := hF.2.1.box.cell0; have f11 := hF.2.1.box.cell1; have f20 := hF.2.2.box.cell0; have f21 := hF.2.2.box.cell1; clear hF; go_simp; try rfl
    rotate_left
    · simp only [Act.put]; exact rfl
    refine Calm.take (i := 8) (v := ?_) (a' := ?_) (l' := #[true, true, true, true, true, true, true, false, true, false, false, false]) (d := some 42) rfl (by kernel_rfl) (by kernel_rfl) (by kernel_rfl) (by kernel_rfl) (fun _ _ _ h => h) HF.out (by kernel_rfl) ?_ rfl rfl ?_ ?_
    rotate_left
    · intro w' hF; have f10 := hF.2.1.box.cell0; have f11 := hF.2.1.box.cell1; have f20 := hF.2.2.box.cell0; have f21 := hF.2.2.box.cell1; clear hF; go_simp; try rfl
    rotate_left
    · simp only [Act.put]; exact rfl
    refine Calm.one (i := 7) (l' := #[true, true, true, true, true, true, true, true, true, false, false, false]) (by kernel_rfl) rfl (by kernel_rfl) rfl fun K hK => ?_
    go_simp
    refine (ibits_any _ z _ HF.out.2.1.int (Nat.le_trans (SX.out.len6 (by decide)) (by decide))).mono ?_
    rintro e t3 ⟨L, rfl, hL, hLb, hb⟩
    have HL := hide (And.intro hL hLb)
    clear hL hLb
    have HF' := hide (And.intro (HF.out.1.trans ((hb).mono HF.out.1.size)) (And.intro (HF.out.2.1.step (hb)) (HF.out.2.2.step (hb))))
    refine hK _ _ (fun _ => HF'.out) ?_
    clear hK K HF hb
    have HF := hide HF'.out
    clear HF'
    refine Calm.one (i := 9) (l' := #[true, true, true, true, true, true, true, true, true, true, false, false]) (by kernel_rfl) rfl (by kernel_rfl) rfl fun K hK => ?_
    go_simp
    refine (rbitz_any _ z _ HF.out.2.2.int (SzI.dlen SX.out (by decide))).mono ?_
    rintro e t4 ⟨M, rfl, hM, hMb, hb⟩
    obtain rfl := len_alike HL.out.1 HL.out.2 hM hMb
    clear hM hMb HL
    have HF' := hide (And.intro (HF.out.1.trans ((hb).mono HF.out.1.size)) (And.intro (HF.out.2.1.step (hb)) (HF.out.2.2.step (hb))))
    refine hK _ _ (fun _ => HF'.out) ?_
    clear hK K HF hb
    have HF := hide HF'.out
    clear HF'
    refine Calm.take (i := 10) (v := ?_) (a' := ?_) (l' := #[true, true, true, true, true, true, true, true, true, true, true, false]) (d := some 44) rfl (by kernel_rfl) (by kernel_rfl) (by kernel_rfl) (by kernel_rfl) (fun _ _ _ h => h) HF.out (by kernel_rfl) ?_ rfl rfl ?_ ?_
    rotate_left
    · intro w' hF; clear hF; go_simp; try rfl
    rotate_left
    · simp only [Act.put]; exact rfl
    refine Calm.take (i := 11) (v := ?_) (a' := ?_) (l' := #[true, true, true, true, true, true, true, true, true, true, true, true]) (d := some 45) rfl (by kernel_rfl) (by kernel_rfl) (by kernel_rfl) (by kernel_rfl) (fun _ _ _ h => h) HF.out rfl ?_ rfl rfl ?_ ?_
    rotate_left
    · intro w' hF; clear hF; go_simp; try rfl
    rotate_left
    · simp only [Act.put]; exact rfl
    refine Calm.done (by kernel_rfl) ?_
    have HB := hide HF.out.1
    have VX := hide HF.out.2.1
    have VP := hide HF.out.2.2
    clear HF
    have x0 := VX.out.box.cell0
    have x1 := VX.out.box.cell1
    go_wp2_with fail
    refine (HSL.out _ _ VX.out.int).mono ?_
    rintro e ul ⟨vl, rfl, nl, hb⟩
    obtain ⟨sl, ml, ll, kl, rfl, nl⟩ := nl.cells
    clear x0 x1
    replace HB := hide (HB.out.trans ((hb).mono HB.out.size))
    replace VX := hide (VX.out.step (hb))
    replace VP := hide (VP.out.step (hb))
    have TL := hide (nl)
    clear hb nl
    go_upto_region 9 with fail
    replace HB := hide (HB.out.trans ((below_alloc ul (.cells #[.bool sl, .slice ml ll kl] 44)).mono HB.out.size))
    replace VX := hide (VX.out.step (below_alloc ul (.cells #[.bool sl, .slice ml ll kl] 44)))
    replace VP := hide (VP.out.step (below_alloc ul (.cells #[.bool sl, .slice ml ll kl] 44)))
    replace TL := hide (TL.out.below (below_alloc ul (.cells #[.bool sl, .slice ml ll kl] 44)))
    have BL := hide (Box.new ul (.bool sl) (.slice ml ll kl))
    generalize ul.alloc (.cells #[.bool sl, .slice ml ll kl] 44) = wl8 at *
    generalize ul.heap.size = gl at *
    have x0 := VX.out.box.cell0
    have x1 := VX.out.box.cell1
    go_wp2_with fail
    refine (HSR.out _ _ VX.out.int (HT.out.below HB.out)).mono ?_
    rintro e ur ⟨vr, rfl, nr, hb⟩
    obtain ⟨sr, mr, lr, kr, rfl, nr⟩ := nr.cells
    clear x0 x1
    replace HB := hide (HB.out.trans ((hb).mono HB.out.size))
    replace VX := hide (VX.out.step (hb))
    replace VP := hide (VP.out.step (hb))
    replace TL := hide (TL.out.below (hb))
    replace BL := hide (BL.out.step (hb))
    have TR := hide (nr)
    clear hb nr
    go_upto_region 10 with fail
    replace HB := hide (HB.out.trans ((below_alloc ur (.cells #[.bool sr, .slice mr lr kr] 44)).mono HB.out.size))
    replace VX := hide (VX.out.step (below_alloc ur (.cells #[.bool sr, .slice mr lr kr] 44)))
    replace VP := hide (VP.out.step (below_alloc ur (.cells #[.bool sr, .slice mr lr kr] 44)))
    replace TL := hide (TL.out.below (below_alloc ur (.cells #[.bool sr, .slice mr lr kr] 44)))
    replace BL := hide (BL.out.step (below_alloc ur (.cells #[.bool sr, .slice mr lr kr] 44)))
    replace TR := hide (TR.out.below (below_alloc ur (.cells #[.bool sr, .slice mr lr kr] 44)))
    have BR := hide (Box.new ur (.bool sr) (.slice mr lr kr))
    generalize ur.alloc (.cells #[.bool sr, .slice mr lr kr] 44) = wr8 at *
    generalize ur.heap.size = gr at *
    rcases HC.out with ⟨c1, rfl, rfl, rfl, rfl⟩ | ⟨c1, rfl, rfl, rfl, c2⟩ | ⟨k, rfl, c1, rfl, rfl, c2⟩
    all_goals clear HC HSL
    · have o0 := BL.out.cell0
      have o1 := BL.out.cell1
      go_wp2_with fail
      refine (zero_yes _ _ TL.out).mono ?_
      rintro e y1 ⟨rfl, hb⟩
      clear o0 o1
      replace HB := hide (HB.out.trans ((hb).mono HB.out.size))
      replace VX := hide (VX.out.step (hb))
      replace VP := hide (VP.out.step (hb))
      replace TL := hide (TL.out.below (hb))
      replace BL := hide (BL.out.step (hb))
      replace TR := hide (TR.out.below (hb))
      replace BR := hide (BR.out.step (hb))
      clear hb
      have o0 := BR.out.cell0
      have o1 := BR.out.cell1
      go_wp2_with fail
      refine (zero_yes _ _ TR.out).mono ?_
      rintro e y2 ⟨rfl, hb⟩
      clear o0 o1
      replace HB := hide (HB.out.trans ((hb).mono HB.out.size))
      replace VX := hide (VX.out.step (hb))
      replace VP := hide (VP.out.step (hb))
      replace TL := hide (TL.out.below (hb))
      replace BL := hide (BL.out.step (hb))
      replace TR := hide (TR.out.below (hb))
      replace BR := hide (BR.out.step (hb))
      clear hb
      go_wp2
      go_ret
      exact ⟨rfl, HB.out⟩
    · have c3 : ¬ n < 0 := by omega
      have o0 := BL.out.cell0
      have o1 := BL.out.cell1
      go_wp2_with fail
      refine (zero_yes _ _ TL.out).mono ?_
      rintro e y1 ⟨rfl, hb⟩
      clear o0 o1
      replace HB := hide (HB.out.trans ((hb).mono HB.out.size))
      replace VX := hide (VX.out.step (hb))
      replace VP := hide (VP.out.step (hb))
      replace TL := hide (TL.out.below (hb))
      replace BL := hide (BL.out.step (hb))
      replace TR := hide (TR.out.below (hb))
      replace BR := hide (BR.out.step (hb))
      clear hb
      have o0 := BR.out.cell0
      have o1 := BR.out.cell1
      go_wp2_with fail
      refine (zero_yes _ _ TR.out).mono ?_
      rintro e y2 ⟨rfl, hb⟩
      clear o0 o1
      replace HB := hide (HB.out.trans ((hb).mono HB.out.size))
      replace VX := hide (VX.out.step (hb))
      replace VP := hide (VP.out.step (hb))
      replace TL := hide (TL.out.below (hb))
      replace BL := hide (BL.out.step (hb))
      replace TR := hide (TR.out.below (hb))
      replace BR := hide (BR.out.step (hb))
      clear hb
      rcases c2 with c2 | c2
      · obtain ⟨hz, rfl⟩ := c2
        have y0 := VP.out.box.cell0
        have y1 := VP.out.box.cell1
        go_wp2_with fail
        refine (rsign_any _ z _ VP.out.int).mono ?_
        rintro e y3 ⟨rfl, hb⟩
        rw [sgn_zero hz]
        clear y0 y1
        replace HB := hide (HB.out.trans ((hb).mono HB.out.size))
        replace VX := hide (VX.out.step (hb))
        replace VP := hide (VP.out.step (hb))
        replace TL := hide (TL.out.below (hb))
        replace BL := hide (BL.out.step (hb))
        replace TR := hide (TR.out.below (hb))
        replace BR := hide (BR.out.step (hb))
        clear hb
        go_wp2
        go_ret
        exact ⟨rfl, HB.out⟩
      · obtain ⟨hz, rfl⟩ := c2
        have hs := sgn_ne hz
        have HZ := hide hz
        clear hz
        have hs2 : (sgnI z != 0) = true := by rw [bne, hs]; rfl
        have hs3 : ¬ sgnI z = 0 := by simpa using hs
        have y0 := VP.out.box.cell0
        have y1 := VP.out.box.cell1
        go_wp2_with fail
        refine (rsign_any _ z _ VP.out.int).mono ?_
        rintro e y3 ⟨rfl, hb⟩
        clear y0 y1
        replace HB := hide (HB.out.trans ((hb).mono HB.out.size))
        replace VX := hide (VX.out.step (hb))
        replace VP := hide (VP.out.step (hb))
        replace TL := hide (TL.out.below (hb))
        replace BL := hide (BL.out.step (hb))
        replace TR := hide (TR.out.below (hb))
        replace BR := hide (BR.out.step (hb))
        clear hb
        have y0 := VP.out.box.cell0
        have y1 := VP.out.box.cell1
        go_wp2_with fail
        refine (rsign_any _ z _ VP.out.int).mono ?_
        rintro e y4 ⟨rfl, hb⟩
        clear y0 y1
        replace HB := hide (HB.out.trans ((hb).mono HB.out.size))
        replace VX := hide (VX.out.step (hb))
        replace VP := hide (VP.out.step (hb))
        replace TL := hide (TL.out.below (hb))
        replace BL := hide (BL.out.step (hb))
        replace TR := hide (TR.out.below (hb))
        replace BR := hide (BR.out.step (hb))
        clear hb
        go_wp2
        go_ret
        exact ⟨rfl, HB.out⟩
    · exfalso
      omega
  · have p0 := P0.out.cell0
    have p1 := P0.out.cell1
    go_wp2_with fail
    refine (of_any b0 a0 c0 xs _ HN0.out (by omega)).mono ?_
    rintro e q0 ⟨v, u, rfl, hI, hR, hb⟩
    generalize sg b0 (val xs) = z at *
    obtain ⟨sx, nx, mx, kx, rfl, hnn, he, h0⟩ := hI
    obtain ⟨sp, np, mp, kp, rfl, hn', he', h0'⟩ := hR
    clear p0 p1
    replace HB := hide (HB.out.trans ((hb).mono HB.out.size))
    replace P0 := hide (P0.out.step (hb))
    replace HN0 := hide (HN0.out.below (hb))
    have hI : IntAt q0 (.agg #[.bool sx, .slice mx (lim nx).length kx]) z := ⟨sx, nx, mx, kx, rfl, hnn, he, h0⟩
    have hR : RInt q0 (.agg #[.bool sp, .slice mp (D.lim np).length kp]) z := ⟨sp, np, mp, kp, rfl, hn', he', h0'⟩
    replace HB := hide (HB.out.trans ((below_alloc q0 (.cells #[.bool sx, .slice mx (lim nx).length kx] 44)).mono HB.out.size))
    replace P0 := hide (P0.out.step (below_alloc q0 (.cells #[.bool sx, .slice mx (lim nx).length kx] 44)))
    replace HN0 := hide (HN0.out.below (below_alloc q0 (.cells #[.bool sx, .slice mx (lim nx).length kx] 44)))
    have VX := hide (hI.var)
    have hR2 := hR.below (below_alloc q0 (.cells #[.bool sx, .slice mx (lim nx).length kx] 44))
    replace HB := hide (HB.out.trans ((below_alloc (q0.alloc (.cells #[.bool sx, .slice mx (lim nx).length kx] 44)) (.cells #[.bool sp, .slice mp (D.lim np).length kp] 46)).mono HB.out.size))
    replace P0 := hide (P0.out.step (below_alloc (q0.alloc (.cells #[.bool sx, .slice mx (lim nx).length kx] 44)) (.cells #[.bool sp, .slice mp (D.lim np).length kp] 46)))
    replace HN0 := hide (HN0.out.below (below_alloc (q0.alloc (.cells #[.bool sx, .slice mx (lim nx).length kx] 44)) (.cells #[.bool sp, .slice mp (D.lim np).length kp] 46)))
    replace VX := hide (VX.out.step (below_alloc (q0.alloc (.cells #[.bool sx, .slice mx (lim nx).length kx] 44)) (.cells #[.bool sp, .slice mp (D.lim np).length kp] 46)))
    have VP := hide (hR2.var)
    rw [World.size_alloc] at VP
    clear hb hnn he h0 hn' he' h0' hI hR hR2 g0 hm0
    clear P0
    clear HN0
    go_upto_region 6 with fail
    generalize (q0.alloc (.cells #[.bool sx, .slice mx (lim nx).length kx] 44)).alloc (.cells #[.bool sp, .slice mp (D.lim np).length kp] 46) = w7 at *
    generalize q0.heap.size = gx at *
    generalize (lim nx).length = lx at *
    generalize (D.lim np).length = lp at *
    obtain ⟨rl, el, rr, er, hsl, hsr, hcase⟩ := tw_case SX.out hn.2 HG.out
    have HSL := hide hsl
    have HSR := hide hsr
    have HC := hide hcase
    clear hsl hsr hcase HG HM
    refine wp_calm (fun w' => Below w.heap.size w w' ∧ Var w' gx sx mx lx kx z ∧ RVar w' (gx + 1) sp mp lp kp z) (fun _ => true) 12 #[false, false, false, false, false, false, false, false, false, false, false, false] (by kernel_rfl) rfl rfl ?_
    have HF := hide (And.intro (HB.out.drew) (And.intro (VX.out.drew) (VP.out.drew)))
    generalize w7.drew = w7d at *
    refine Calm.take (i := 0) (v := ?_) (a' := ?_) (l' := #[true, false, false, false, false, false, false, false, false, false, false, false]) (d := some 34) rfl (by kernel_rfl) (by kernel_rfl) (by kernel_rfl) (by kernel_rfl) (fun _ _ _ h => h) HF.out rfl ?_ rfl rfl ?_ ?_
    rotate_left
    · intro w' hF; have f10 := hF.2.1.box.cell0; have f11 := hF.2.1.box.cell1; have f20 := hF.2.2.box.cell0; have f21 := hF.2.2.box.cell1; clear hF; go_simp; try rfl
    rotate_left
    · simp only [Act.put]; exact rfl
    refine Calm.take (i := 2) (v := ?_) (a' := ?_) (l' := #[true, false, true, false, false, false, false, false, false, false, false, false]) (d := some 36) rfl (by kernel_rfl) (by kernel_rfl) (by kernel_rfl) (by kernel_rfl) (fun _ _ _ h => h) HF.out rfl ?_ rfl rfl ?_ ?_
    rotate_left
    · intro w' hF; have f10 := hF.2.1.box.cell0; have f11 := hF.2.1.box.cell1; have f20 := hF.2.2.box.cell0; have f21 := hF.2.2.box.cell1; clear hF; go_simp; try rfl
    rotate_left
    · simp only [Act.put]; exact rfl
    refine Calm.one (i := 1) (l' := #[true, true, true, false, false, false, false, false, false, false, false, false]) (by kernel_rfl) rfl rfl rfl fun K hK => ?_
    go_simp
    refine (itwos_any _ z _ HF.out.2.1.int (HT.out.below HF.out.1) (SX.out.len6 (by decide))).mono ?_
    rintro e t1 ⟨tw, rfl, htw, hb⟩
    have HTW := hide htw
    clear htw
    have HF' := hide (And.intro (HF.out.1.trans ((hb).mono HF.out.1.size)) (And.intro (HF.out.2.1.step (hb)) (HF.out.2.2.step (hb))))
    refine hK _ _ (fun _ => HF'.out) ?_
    clear hK K HF hb
    have HF := hide HF'.out
    clear HF'
    refine Calm.one (i := 3) (l' := #[true, true, true, true, false, false, false, false, false, false, false, false]) (by kernel_rfl) rfl rfl rfl fun K hK => ?_
    go_simp
    refine (rtwoz_any _ z _ HF.out.2.2.int (Nat.le_trans (dlen2 SX.out) (by decide))).mono ?_
    rintro e t2 ⟨tw2, rfl, htw2, hb⟩
    obtain rfl := HTW.out.only htw2
    clear htw2 HTW
    have HF' := hide (And.intro (HF.out.1.trans ((hb).mono HF.out.1.size)) (And.intro (HF.out.2.1.step (hb)) (HF.out.2.2.step (hb))))
    refine hK _ _ (fun _ => HF'.out) ?_
    clear hK K HF hb
    have HF := hide HF'.out
    clear HF'
    refine Calm.take (i := 4) (v := ?_) (a' := ?_) (l' := #[true, true, true, true, true, false, false, false, false, false, false, false]) (d := some 38) rfl (by kernel_rfl) (by kernel_rfl) (by kernel_rfl) (by kernel_rfl) (fun _ _ _ h => h) HF.out rfl ?_ rfl rfl ?_ ?_
    rotate_left
    · intro w' hF; clear hF; go_simp; try rfl
    rotate_left
    · simp only [Act.put]; exact rfl
    refine Calm.take (i := 5) (v := ?_) (a' := ?_) (l' := #[true, true, true, true, true, true, false, false, false, false, false, false]) (d := some 39) rfl (by kernel_rfl) (by kernel_rfl) (by kernel_rfl) (by kernel_rfl) (fun _ _ _ h => h) HF.out rfl ?_ rfl rfl ?_ ?_
    rotate_left
    · intro w' hF; clear hF; go_simp; try rfl
    rotate_left
    · simp only [Act.put]; exact rfl
    refine Calm.take (i := 6) (v := ?_) (a' := ?_) (l' := #[true, true, true, true, true, true, true, false, false, false, false, false]) (d := some 40) rfl (by kernel_rfl) (by kernel_rfl) (by kernel_rfl) (by kernel_rfl) (fun _ _ _ h => h) HF.out (by kernel_rfl) ?_ rfl rfl ?_ ?_
    rotate_left
    · intro w' hF; have f10 := hF.2.1.box.cell0; have f11 := hF.2.1.box.cell1; have f20 := hF.2.2.box.cell0; have f21 := hF.2.2.box.cell1; clear hF; go_simp; try rfl
    rotate_left
    · simp only [Act.put]; exact rfl
    refine Calm.take (i := 8) (v := ?_) (a' := ?_) (l' := #[true, true, true, true, true, true, true, false, true, false, false, false]) (d := some 42) rfl (by kernel_rfl) (by kernel_rfl) (by kernel_rfl) (by kernel_rfl) (fun _ _ _ h => h) HF.out (by kernel_rfl) ?_ rfl rfl ?_ ?_
    rotate_left
    · intro w' hF; have f10 := hF.2.1.box.cell0; have f11 := hF.2.1.box.cell1; have f20 := hF.2.2.box.cell0; have f21 := hF.2.2.box.cell1; clear hF; go_simp; try rfl
    rotate_left
    · simp only [Act.put]; exact rfl
    refine Calm.one (i := 7) (l' := #[true, true, true, true, true, true, true, true, true, false, false, false]) (by kernel_rfl) rfl (by kernel_rfl) rfl fun K hK => ?_
    go_simp
    refine (ibits_any _ z _ HF.out.2.1.int (Nat.le_trans (SX.out.len6 (by decide)) (by decide))).mono ?_
    rintro e t3 ⟨L, rfl, hL, hLb, hb⟩
    have HL := hide (And.intro hL hLb)
    clear hL hLb
    have HF' := hide (And.intro (HF.out.1.trans ((hb).mono HF.out.1.size)) (And.intro (HF.out.2.1.step (hb)) (HF.out.2.2.step (hb))))
    refine hK _ _ (fun _ => HF'.out) ?_
    clear hK K HF hb
    have HF := hide HF'.out
    clear HF'
    refine Calm.one (i := 9) (l' := #[true, true, true, true, true, true, true, true, true, true, false, false]) (by kernel_rfl) rfl (by kernel_rfl) rfl fun K hK => ?_
    go_simp
    refine (rbitz_any _ z _ HF.out.2.2.int (SzI.dlen SX.out (by decide))).mono ?_
    rintro e t4 ⟨M, rfl, hM, hMb, hb⟩
    obtain rfl := len_alike HL.out.1 HL.out.2 hM hMb
    clear hM hMb HL
    have HF' := hide (And.intro (HF.out.1.trans ((hb).mono HF.out.1.size)) (And.intro (HF.out.2.1.step (hb)) (HF.out.2.2.step (hb))))
    refine hK _ _ (fun _ => HF'.out) ?_
    clear hK K HF hb
    have HF := hide HF'.out
    clear HF'
    refine Calm.take (i := 10) (v := ?_) (a' := ?_) (l' := #[true, true, true, true, true, true, true, true, true, true, true, false]) (d := some 44) rfl (by kernel_rfl) (by kernel_rfl) (by kernel_rfl) (by kernel_rfl) (fun _ _ _ h => h) HF.out (by kernel_rfl) ?_ rfl rfl ?_ ?_
    rotate_left
    · intro w' hF; clear hF; go_simp; try rfl
    rotate_left
    · simp only [Act.put]; exact rfl
    refine Calm.take (i := 11) (v := ?_) (a' := ?_) (l' := #[true, true, true, true, true, true, true, true, true, true, true, true]) (d := some 45) rfl (by kernel_rfl) (by kernel_rfl) (by kernel_rfl) (by kernel_rfl) (fun _ _ _ h => h) HF.out rfl ?_ rfl rfl ?_ ?_
    rotate_left
    · intro w' hF; clear hF; go_simp; try rfl
    rotate_left
    · simp only [Act.put]; exact rfl
    refine Calm.done (by kernel_rfl) ?_
    have HB := hide HF.out.1
    have VX := hide HF.out.2.1
    have VP := hide HF.out.2.2
    clear HF
    have x0 := VX.out.box.cell0
    have x1 := VX.out.box.cell1
    go_wp2_with fail
    refine (HSL.out _ _ VX.out.int).mono ?_
    rintro e ul ⟨vl, rfl, nl, hb⟩
    obtain ⟨sl, ml, ll, kl, rfl, nl⟩ := nl.cells
    clear x0 x1
    replace HB := hide (HB.out.trans ((hb).mono HB.out.size))
    replace VX := hide (VX.out.step (hb))
    replace VP := hide (VP.out.step (hb))
    have TL := hide (nl)
    clear hb nl
    go_upto_region 9 with fail
    replace HB := hide (HB.out.trans ((below_alloc ul (.cells #[.bool sl, .slice ml ll kl] 44)).mono HB.out.size))
    replace VX := hide (VX.out.step (below_alloc ul (.cells #[.bool sl, .slice ml ll kl] 44)))
    replace VP := hide (VP.out.step (below_alloc ul (.cells #[.bool sl, .slice ml ll kl] 44)))
    replace TL := hide (TL.out.below (below_alloc ul (.cells #[.bool sl, .slice ml ll kl] 44)))
    have BL := hide (Box.new ul (.bool sl) (.slice ml ll kl))
    generalize ul.alloc (.cells #[.bool sl, .slice ml ll kl] 44) = wl8 at *
    generalize ul.heap.size = gl at *
    have x0 := VX.out.box.cell0
    have x1 := VX.out.box.cell1
    go_wp2_with fail
    refine (HSR.out _ _ VX.out.int (HT.out.below HB.out)).mono ?_
    rintro e ur ⟨vr, rfl, nr, hb⟩
    obtain ⟨sr, mr, lr, kr, rfl, nr⟩ := nr.cells
    clear x0 x1
    replace HB := hide (HB.out.trans ((hb).mono HB.out.size))
    replace VX := hide (VX.out.step (hb))
    replace VP := hide (VP.out.step (hb))
    replace TL := hide (TL.out.below (hb))
    replace BL := hide (BL.out.step (hb))
    have TR := hide (nr)
    clear hb nr
    go_upto_region 10 with fail
    replace HB := hide (HB.out.trans ((below_alloc ur (.cells #[.bool sr, .slice mr lr kr] 44)).mono HB.out.size))
    replace VX := hide (VX.out.step (below_alloc ur (.cells #[.bool sr, .slice mr lr kr] 44)))
    replace VP := hide (VP.out.step (below_alloc ur (.cells #[.bool sr, .slice mr lr kr] 44)))
    replace TL := hide (TL.out.below (below_alloc ur (.cells #[.bool sr, .slice mr lr kr] 44)))
    replace BL := hide (BL.out.step (below_alloc ur (.cells #[.bool sr, .slice mr lr kr] 44)))
    replace TR := hide (TR.out.below (below_alloc ur (.cells #[.bool sr, .slice mr lr kr] 44)))
    have BR := hide (Box.new ur (.bool sr) (.slice mr lr kr))
    generalize ur.alloc (.cells #[.bool sr, .slice mr lr kr] 44) = wr8 at *
    generalize ur.heap.size = gr at *
    rcases HC.out with ⟨c1, rfl, rfl, rfl, rfl⟩ | ⟨c1, rfl, rfl, rfl, c2⟩ | ⟨k, rfl, c1, rfl, rfl, c2⟩
    all_goals clear HC HSL
    · have o0 := BL.out.cell0
      have o1 := BL.out.cell1
      go_wp2_with fail
      refine (zero_yes _ _ TL.out).mono ?_
      rintro e y1 ⟨rfl, hb⟩
      clear o0 o1
      replace HB := hide (HB.out.trans ((hb).mono HB.out.size))
      replace VX := hide (VX.out.step (hb))
      replace VP := hide (VP.out.step (hb))
      replace TL := hide (TL.out.below (hb))
      replace BL := hide (BL.out.step (hb))
      replace TR := hide (TR.out.below (hb))
      replace BR := hide (BR.out.step (hb))
      clear hb
      have o0 := BR.out.cell0
      have o1 := BR.out.cell1
      go_wp2_with fail
      refine (zero_yes _ _ TR.out).mono ?_
      rintro e y2 ⟨rfl, hb⟩
      clear o0 o1
      replace HB := hide (HB.out.trans ((hb).mono HB.out.size))
      replace VX := hide (VX.out.step (hb))
      replace VP := hide (VP.out.step (hb))
      replace TL := hide (TL.out.below (hb))
      replace BL := hide (BL.out.step (hb))
      replace TR := hide (TR.out.below (hb))
      replace BR := hide (BR.out.step (hb))
      clear hb
      go_wp2
      go_ret
      exact ⟨rfl, HB.out⟩
    · have c3 : ¬ n < 0 := by omega
      have o0 := BL.out.cell0
      have o1 := BL.out.cell1
      go_wp2_with fail
      refine (zero_yes _ _ TL.out).mono ?_
      rintro e y1 ⟨rfl, hb⟩
      clear o0 o1
      replace HB := hide (HB.out.trans ((hb).mono HB.out.size))
      replace VX := hide (VX.out.step (hb))
      replace VP := hide (VP.out.step (hb))
      replace TL := hide (TL.out.below (hb))
      replace BL := hide (BL.out.step (hb))
      replace TR := hide (TR.out.below (hb))
      replace BR := hide (BR.out.step (hb))
      clear hb
      have o0 := BR.out.cell0
      have o1 := BR.out.cell1
      go_wp2_with fail
      refine (zero_yes _ _ TR.out).mono ?_
      rintro e y2 ⟨rfl, hb⟩
      clear o0 o1
      replace HB := hide (HB.out.trans ((hb).mono HB.out.size))
      replace VX := hide (VX.out.step (hb))
      replace VP := hide (VP.out.step (hb))
      replace TL := hide (TL.out.below (hb))
      replace BL := hide (BL.out.step (hb))
      replace TR := hide (TR.out.below (hb))
      replace BR := hide (BR.out.step (hb))
      clear hb
      rcases c2 with c2 | c2
      · obtain ⟨hz, rfl⟩ := c2
        have y0 := VP.out.box.cell0
        have y1 := VP.out.box.cell1
        go_wp2_with fail
        refine (rsign_any _ z _ VP.out.int).mono ?_
        rintro e y3 ⟨rfl, hb⟩
        rw [sgn_zero hz]
        clear y0 y1
        replace HB := hide (HB.out.trans ((hb).mono HB.out.size))
        replace VX := hide (VX.out.step (hb))
        replace VP := hide (VP.out.step (hb))
        replace TL := hide (TL.out.below (hb))
        replace BL := hide (BL.out.step (hb))
        replace TR := hide (TR.out.below (hb))
        replace BR := hide (BR.out.step (hb))
        clear hb
        go_wp2
        go_ret
        exact ⟨rfl, HB.out⟩
      · obtain ⟨hz, rfl⟩ := c2
        have hs := sgn_ne hz
        have HZ := hide hz
        clear hz
        have hs2 : (sgnI z != 0) = true := by rw [bne, hs]; rfl
        have hs3 : ¬ sgnI z = 0 := by simpa using hs
        have y0 := VP.out.box.cell0
        have y1 := VP.out.box.cell1
        go_wp2_with fail
        refine (rsign_any _ z _ VP.out.int).mono ?_
        rintro e y3 ⟨rfl, hb⟩
        clear y0 y1
        replace HB := hide (HB.out.trans ((hb).mono HB.out.size))
        replace VX := hide (VX.out.step (hb))
        replace VP := hide (VP.out.step (hb))
        replace TL := hide (TL.out.below (hb))
        replace BL := hide (BL.out.step (hb))
        replace TR := hide (TR.out.below (hb))
        replace BR := hide (BR.out.step (hb))
        clear hb
        have y0 := VP.out.box.cell0
        have y1 := VP.out.box.cell1
        go_wp2_with fail
        refine (rsign_any _ z _ VP.out.int).mono ?_
        rintro e y4 ⟨rfl, hb⟩
        clear y0 y1
        replace HB := hide (HB.out.trans ((hb).mono HB.out.size))
        replace VX := hide (VX.out.step (hb))
        replace VP := hide (VP.out.step (hb))
        replace TL := hide (TL.out.below (hb))
        replace BL := hide (BL.out.step (hb))
        replace TR := hide (TR.out.below (hb))
        replace BR := hide (BR.out.step (hb))
        clear hb
        go_wp2
        go_ret
        exact ⟨rfl, HB.out⟩
    · obtain ⟨P, hP⟩ : ∃ P : Nat, P = 2 ^ k := ⟨_, rfl⟩
      have HP := hide hP
      have HPW : Hid (∀ w0, Calls Tryd.prog 37 #[.int .i64 k] w0 fun e w' => ∃ v', e = .returned v' ∧ RInt w' v' (P : Int) ∧ Below w0.heap.size w0 w') := hide (fun w0 => by rw [hP]; exact rpower_any k w0 (by omega))
      have SP : Hid (SzI 94 (P : Int)) := hide (by rw [hP]; exact szi_pow (by omega))
      have HPP : Hid ((P : Int) ≠ 0) := hide (by have := Nat.two_pow_pos k; omega)
      have HSB : Hid (ShrP (z * (P : Int)) k z 0) := hide (by rw [hP]; exact shrP_exact _ z k (by omega) rfl (by rw [← hP]; exact (SX.out.mul SP.out).len6 (by decide)))
      rw [← hP] at TL c2
      have C2 := hide c2
      clear hP c2
      have c3 : ¬ (k : Int) < 0 := by omega
      have c4 : ¬ (65536 : Int) < (k : Int) := by omega
      go_upto_region 15 with fail
      refine wp_calm (fun w' => Below w.heap.size w w' ∧ Box w' gl (.bool sl) (.slice ml ll kl) ∧ RVar w' (gx + 1) sp mp lp kp z ∧ IntAt w' (.agg #[.bool sl, .slice ml ll kl]) (z * (P : Int)) ∧ Box w' gr (.bool sr) (.slice mr lr kr) ∧ IntAt w' (.agg #[.bool sr, .slice mr lr kr]) rr) (fun _ => true) 11 #[false, false, false, false, false, false, false, false, false, false, false] (by kernel_rfl) rfl rfl ?_
      have HF := hide (And.intro (HB.out.drew) (And.intro (BL.out.drew) (And.intro (VP.out.drew) (And.intro (TL.out.drew) (And.intro (BR.out.drew) (TR.out.drew))))))
      generalize wr8.drew = wr8d at *
      refine Calm.take (i := 0) (v := ?_) (a' := ?_) (l' := #[true, false, false, false, false, false, false, false, false, false, false]) (d := some 105) rfl (by kernel_rfl) (by kernel_rfl) (by kernel_rfl) (by kernel_rfl) (fun _ _ _ h => h) HF.out rfl ?_ rfl rfl ?_ ?_
      rotate_left
      · intro w' hF; clear hF; go_simp; try rfl
      rotate_left
      · simp only [Act.put]; exact rfl
      refine Calm.take (i := 1) (v := ?_) (a' := ?_) (l' := #[true, true, false, false, false, false, false, false, false, false, false]) (d := some 106) rfl (by kernel_rfl) (by kernel_rfl) (by kernel_rfl) (by kernel_rfl) (fun _ _ _ h => h) HF.out rfl ?_ rfl rfl ?_ ?_
      rotate_left
      · intro w' hF; clear hF; go_simp; try rfl
      rotate_left
      · simp only [Act.put]; exact rfl
      refine Calm.take (i := 2) (v := ?_) (a' := ?_) (l' := #[true, true, true, false, false, false, false, false, false, false, false]) (d := some 107) rfl (by kernel_rfl) (by kernel_rfl) (by kernel_rfl) (by kernel_rfl) (fun _ _ _ h => h) HF.out rfl ?_ rfl rfl ?_ ?_
      rotate_left
      · intro w' hF; clear hF; go_simp; try rfl
      rotate_left
      · simp only [Act.put]; exact rfl
      refine Calm.take (i := 3) (v := ?_) (a' := ?_) (l' := #[true, true, true, true, false, false, false, false, false, false, false]) (d := some 108) rfl (by kernel_rfl) (by kernel_rfl) (by kernel_rfl) (by kernel_rfl) (fun _ _ _ h => h) HF.out (by kernel_rfl) ?_ rfl rfl ?_ ?_
      rotate_left
      · intro w' hF; have f10 := hF.2.1.cell0; have f11 := hF.2.1.cell1; have f20 := hF.2.2.1.box.cell0; have f21 := hF.2.2.1.box.cell1; have f40 := hF.2.2.2.2.1.cell0; have f41 := hF.2.2.2.2.1.cell1; clear hF; go_simp; try rfl
      rotate_left
      · simp only [Act.put]; exact rfl
      refine Calm.take (i := 4) (v := ?_) (a' := ?_) (l' := #[true, true, true, true, true, false, false, false, false, false, false]) (d := some 109) rfl (by kernel_rfl) (by kernel_rfl) (by kernel_rfl) (by kernel_rfl) (fun _ _ _ h => h) HF.out (by kernel_rfl) ?_ rfl rfl ?_ ?_
      rotate_left
      · intro w' hF; have f10 := hF.2.1.cell0; have f11 := hF.2.1.cell1; have f20 := hF.2.2.1.box.cell0; have f21 := hF.2.2.1.box.cell1; have f40 := hF.2.2.2.2.1.cell0; have f41 := hF.2.2.2.2.1.cell1; clear hF; go_simp; try rfl
      rotate_left
      · simp only [Act.put]; exact rfl
      refine Calm.take (i := 5) (v := ?_) (a' := ?_) (l' := #[true, true, true, true, true, true, false, false, false, false, false]) (d := some 110) rfl (by kernel_rfl) (by kernel_rfl) (by kernel_rfl) (by kernel_rfl) (fun _ _ _ h => h) HF.out (by kernel_rfl) ?_ rfl rfl ?_ ?_
      rotate_left
      · intro w' hF; clear hF; go_simp; try rfl
      rotate_left
      · simp only [Act.put]; exact rfl
      refine Calm.one (i := 6) (l' := #[true, true, true, true, true, true, true, false, false, false, false]) (by kernel_rfl) rfl (by kernel_rfl) rfl fun K hK => ?_
      go_simp
      refine (HPW.out _).mono ?_
      rintro e z1 ⟨v1, rfl, n1, hb⟩
      have HF' := hide (And.intro (HF.out.1.trans ((hb).mono HF.out.1.size)) (And.intro (HF.out.2.1.step (hb)) (And.intro (HF.out.2.2.1.step (hb)) (And.intro (HF.out.2.2.2.1.below (hb)) (And.intro (HF.out.2.2.2.2.1.step (hb)) (HF.out.2.2.2.2.2.below (hb)))))))
      have TP := hide (n1)
      refine hK _ _ (fun _ => HF'.out) ?_
      clear hK K HF hb n1
      have HF := hide HF'.out
      clear HF'
      refine Calm.one (i := 7) (l' := #[true, true, true, true, true, true, true, true, false, false, false]) (by kernel_rfl) rfl (by kernel_rfl) rfl fun K hK => ?_
      go_simp
      refine (rmul2_any _ _ z (P : Int) _ HF.out.2.2.1.int TP.out (SX.out.dlen (by decide)) (SP.out.dlen (by decide))).mono ?_
      rintro e z2 ⟨v2, rfl, n2, hb⟩
      clear TP
      have HF' := hide (And.intro (HF.out.1.trans ((hb).mono HF.out.1.size)) (And.intro (HF.out.2.1.step (hb)) (And.intro (HF.out.2.2.1.step (hb)) (And.intro (HF.out.2.2.2.1.below (hb)) (And.intro (HF.out.2.2.2.2.1.step (hb)) (HF.out.2.2.2.2.2.below (hb)))))))
      have TM := hide (n2)
      refine hK _ _ (fun _ => HF'.out) ?_
      clear hK K HF hb n2
      have HF := hide HF'.out
      clear HF'
      refine Calm.one (i := 8) (l' := #[true, true, true, true, true, true, true, true, true, false, false]) (by kernel_rfl) rfl (by kernel_rfl) rfl fun K hK => ?_
      go_simp
      refine (is_yes _ _ (z * (P : Int)) _ HF.out.2.2.2.1 TM.out (SzI.len (SX.out.mul SP.out) (by decide)) (Nat.le_trans (SzI.dlen (SX.out.mul SP.out) (by decide)) (by decide))).mono ?_
      rintro e z3 ⟨rfl, hb⟩
      clear TM
      have HF' := hide (And.intro (HF.out.1.trans ((hb).mono HF.out.1.size)) (And.intro (HF.out.2.1.step (hb)) (And.intro (HF.out.2.2.1.step (hb)) (And.intro (HF.out.2.2.2.1.below (hb)) (And.intro (HF.out.2.2.2.2.1.step (hb)) (HF.out.2.2.2.2.2.below (hb)))))))
      refine hK _ _ (fun _ => HF'.out) ?_
      clear hK K HF hb
      have HF := hide HF'.out
      clear HF'
      refine Calm.take (i := 9) (v := ?_) (a' := ?_) (l' := #[true, true, true, true, true, true, true, true, true, true, false]) (d := some 114) rfl (by kernel_rfl) (by kernel_rfl) (by kernel_rfl) (by kernel_rfl) (fun _ _ _ h => h) HF.out (by kernel_rfl) ?_ rfl rfl ?_ ?_
      rotate_left
      · intro w' hF; clear hF; go_simp; try rfl
      rotate_left
      · simp only [Act.put]; exact rfl
      refine Calm.take (i := 10) (v := ?_) (a' := ?_) (l' := #[true, true, true, true, true, true, true, true, true, true, true]) (d := some 115) rfl (by kernel_rfl) (by kernel_rfl) (by kernel_rfl) (by kernel_rfl) (fun _ _ _ h => h) HF.out rfl ?_ rfl rfl ?_ ?_
      rotate_left
      · intro w' hF; clear hF; go_simp; try rfl
      rotate_left
      · simp only [Act.put]; exact rfl
      refine Calm.done (by kernel_rfl) ?_
      have HB := hide (HF.out.1)
      have BL := hide (HF.out.2.1)
      have VP := hide (HF.out.2.2.1)
      have TL := hide (HF.out.2.2.2.1)
      have BR := hide (HF.out.2.2.2.2.1)
      have TR := hide (HF.out.2.2.2.2.2)
      clear HF
      have o0 := BL.out.cell0
      have o1 := BL.out.cell1
      go_wp2_with fail
      refine (HSB.out _ _ TL.out (HT.out.below HB.out)).mono ?_
      rintro e ub ⟨vb, rfl, nb, hb⟩
      obtain ⟨sb, mb, lb, kb, rfl, nb⟩ := nb.cells
      clear o0 o1
      replace HB := hide (HB.out.trans ((hb).mono HB.out.size))
      replace BL := hide (BL.out.step (hb))
      replace VP := hide (VP.out.step (hb))
      replace TL := hide (TL.out.below (hb))
      replace BR := hide (BR.out.step (hb))
      replace TR := hide (TR.out.below (hb))
      have TB := hide (nb)
      clear hb nb
      go_upto_region 18 with fail
      replace HB := hide (HB.out.trans ((below_alloc ub (.cells #[.bool sb, .slice mb lb kb] 44)).mono HB.out.size))
      replace BL := hide (BL.out.step (below_alloc ub (.cells #[.bool sb, .slice mb lb kb] 44)))
      replace VP := hide (VP.out.step (below_alloc ub (.cells #[.bool sb, .slice mb lb kb] 44)))
      replace TL := hide (TL.out.below (below_alloc ub (.cells #[.bool sb, .slice mb lb kb] 44)))
      replace BR := hide (BR.out.step (below_alloc ub (.cells #[.bool sb, .slice mb lb kb] 44)))
      replace TR := hide (TR.out.below (below_alloc ub (.cells #[.bool sb, .slice mb lb kb] 44)))
      replace TB := hide (TB.out.below (below_alloc ub (.cells #[.bool sb, .slice mb lb kb] 44)))
      have BB8 := hide (Box.new ub (.bool sb) (.slice mb lb kb))
      generalize ub.alloc (.cells #[.bool sb, .slice mb lb kb] 44) = wb8 at *
      generalize ub.heap.size = gb at *
      have o0 := BB8.out.cell0
      have o1 := BB8.out.cell1
      have y0 := VP.out.box.cell0
      have y1 := VP.out.box.cell1
      go_wp2_with fail
      refine (is_yes _ _ z _ TB.out VP.out.int (SzI.len SX.out (by decide)) (Nat.le_trans (SzI.dlen SX.out (by decide)) (by decide))).mono ?_
      rintro e z4 ⟨rfl, hb⟩
      clear o0 o1 y0 y1
      replace HB := hide (HB.out.trans ((hb).mono HB.out.size))
      replace BL := hide (BL.out.step (hb))
      replace VP := hide (VP.out.step (hb))
      replace TL := hide (TL.out.below (hb))
      replace BR := hide (BR.out.step (hb))
      replace TR := hide (TR.out.below (hb))
      replace TB := hide (TB.out.below (hb))
      replace BB8 := hide (BB8.out.step (hb))
      clear hb BB8 TB BL TL HSB
      go_upto_region 20 with fail
      refine wp_calm (fun w' => Below z4.heap.size z4 w') (fun _ => true) 10 #[false, false, false, false, false, false, false, false, false, false] (by kernel_rfl) rfl rfl ?_
      have HF := hide ((Below.refl z4.heap.size z4).drew)
      generalize z4.drew = z4d at *
      refine Calm.take (i := 0) (v := ?_) (a' := ?_) (l' := #[true, false, false, false, false, false, false, false, false, false]) (d := some 131) rfl (by kernel_rfl) (by kernel_rfl) (by kernel_rfl) (by kernel_rfl) (fun _ _ _ h => h) HF.out rfl ?_ rfl rfl ?_ ?_
      rotate_left
      · intro w' hF; have f0 := (VP.out.step hF).box.cell0; have f1 := (VP.out.step hF).box.cell1; clear hF; go_simp; try rfl
      rotate_left
      · simp only [Act.put]; exact rfl
      refine Calm.take (i := 1) (v := ?_) (a' := ?_) (l' := #[true, true, false, false, false, false, false, false, false, false]) (d := some 132) rfl (by kernel_rfl) (by kernel_rfl) (by kernel_rfl) (by kernel_rfl) (fun _ _ _ h => h) HF.out rfl ?_ rfl rfl ?_ ?_
      rotate_left
      · intro w' hF; clear hF; go_simp; try rfl
      rotate_left
      · simp only [Act.put]; exact rfl
      refine Calm.two (i := 2) (j := 7) (l := #[true, true, true, false, false, false, false, false, false, false]) (l' := #[true, true, false, false, false, false, false, true, false, false]) (by kernel_rfl) rfl rfl rfl rfl rfl rfl (fun K hK => ?_) (fun K hK => ?_)
      · go_simp
        refine (HPW.out _).mono ?_
        rintro e z5 ⟨v5, rfl, n5, hb⟩
        have HF' := hide (HF.out.trans ((hb).mono HF.out.size))
        have TP := hide (n5)
        refine hK _ _ (fun _ => HF'.out) ?_
        clear hK K HF hb n5
        have HF := hide HF'.out
        clear HF'
        refine Calm.two (i := 3) (j := 7) (l := #[true, true, true, true, false, false, false, false, false, false]) (l' := #[true, true, true, false, false, false, false, true, false, false]) (by kernel_rfl) rfl rfl rfl rfl rfl rfl (fun K hK => ?_) (fun K hK => ?_)
        · go_simp
          refine (rover_any _ _ z (P : Int) _ (VP.out.step HF.out).int TP.out (Nat.le_trans (dlen2 SX.out) (by decide)) (dlen7P SP.out) HPP.out).mono ?_
          rintro e z6 ⟨vo, zo, bo, rfl, no, ho, hb⟩
          obtain ⟨so, mo, lo, ko, rfl, no⟩ := no.cells
          have HO := hide ho
          clear ho
          clear TP
          have HF' := hide (HF.out.trans ((hb).mono HF.out.size))
          have TO := hide (no)
          refine hK _ _ (fun _ => HF'.out) ?_
          clear hK K HF hb no
          have HF := hide HF'.out
          clear HF'
          refine Calm.take (i := 4) (v := ?_) (a' := ?_) (l' := #[true, true, true, true, true, false, false, false, false, false]) (d := some 130) rfl (by kernel_rfl) (by kernel_rfl) (by kernel_rfl) (by kernel_rfl) (fun _ _ _ h => h) HF.out rfl ?_ rfl rfl ?_ ?_
          rotate_left
          · intro w' hF; clear hF; go_simp; try rfl
          rotate_left
          · simp only [Act.put]; exact rfl
          refine Calm.take (i := 5) (v := ?_) (a' := ?_) (l' := #[true, true, true, true, true, true, false, false, false, false]) (d := some 135) rfl (by kernel_rfl) (by kernel_rfl) (by kernel_rfl) (by kernel_rfl) (fun _ _ _ h => h) HF.out rfl ?_ rfl rfl ?_ ?_
          rotate_left
          · intro w' hF; clear hF; go_simp; try rfl
          rotate_left
          · simp only [Act.put]; exact rfl
          refine Calm.take (i := 6) (v := ?_) (a' := ?_) (l' := #[true, true, true, true, true, true, true, false, false, false]) (d := some 136) rfl (by kernel_rfl) (by kernel_rfl) (by kernel_rfl) (by kernel_rfl) (fun _ _ _ h => h) HF.out rfl ?_ rfl rfl ?_ ?_
          rotate_left
          · intro w' hF; clear hF; go_simp; try rfl
          rotate_left
          · simp only [Act.put]; exact rfl
          refine Calm.one (i := 7) (l' := #[true, true, true, true, true, true, true, true, false, false]) (by kernel_rfl) rfl rfl rfl fun K hK => ?_
          go_simp
          have al := below_alloc z6 (.cells #[.bool false, .slice none 0 0] 46)
          have HF' := hide (HF.out.trans ((al).mono HF.out.size))
          have BXd := hide (Box2.new z6 46 (.bool false) (.slice none 0 0))
          replace TO := hide (TO.out.below (al))
          have GEd := hide (HF.out.size)
          refine hK _ _ (fun _ => HF'.out) ?_
          clear hK K HF al
          have HF := hide HF'.out
          clear HF'
          generalize z6.alloc (.cells #[.bool false, .slice none 0 0] 46) = wzd at *
          generalize z6.heap.size = gd at *
          refine Calm.one (i := 8) (l' := #[true, true, true, true, true, true, true, true, true, false]) (by kernel_rfl) rfl rfl rfl fun K hK => ?_
          have LTS := GEd
          have hc0 := BXd.out.cell0
          have hc1 := BXd.out.cell1
          have hf0 := BXd.out.free 0
          have hf1 := BXd.out.free 1
          go_simp
          have HF' := hide (below_put HF.out (show z4.heap.size ≤ gd by have hx := LTS.out; omega) (.bool so) (.slice mo lo ko))
          replace TO := hide (TO.out.keep (BXd.out.keeps (by simp) (by simp) (.bool so) (.slice mo lo ko)))
          replace BXd := hide (BXd.out.put (.bool so) (.slice mo lo ko))
          refine hK _ _ (fun _ => HF'.out) ?_
          clear hK K HF hc0 hf0 hc1 hf1
          have HF := hide HF'.out
          clear HF'
          generalize ((wzd.setCell ⟨gd, 0, none⟩ (.bool so)).setCell ⟨gd, 1, none⟩ (.slice mo lo ko)) = z7 at *
          refine Calm.take (i := 9) (v := ?_) (a' := ?_) (l' := #[true, true, true, true, true, true, true, true, true, true]) (d := some 15) rfl (by kernel_rfl) (by kernel_rfl) (by kernel_rfl) (by kernel_rfl) (fun _ _ _ h => h) HF.out rfl ?_ rfl rfl ?_ ?_
          rotate_left
          · intro w' hF; clear hF; go_simp; try rfl
          rotate_left
          · simp only [Act.put]; exact rfl
          refine Calm.done (by kernel_rfl) ?_
          have HB2 := hide (HB.out.trans (HF.out.mono HB.out.size))
          have BR2 := hide (BR.out.step HF.out)
          have TR2 := hide (TR.out.below HF.out)
          clear HF HB BR TR VP
          have r0 := BR2.out.cell0
          have r1 := BR2.out.cell1
          have s0 := BXd.out.cell0
          have s1 := BXd.out.cell1
          rcases C2.out with ⟨d1, rfl, rfl⟩ | ⟨d1, rfl, rfl⟩
          · rcases HO.out with ⟨d2, _, _⟩ | ⟨_, rfl, rfl⟩
            · exact absurd d1 d2
            · clear d1 C2 HO
              go_wp2_with fail
              refine (is_yes _ _ (z / (P : Int)) _ TR2.out TO.out (SzI.len (k := 60) (Nat.lt_of_le_of_lt (Int.natAbs_ediv_le_natAbs z P) SX.out) (by decide)) (Nat.le_trans (SzI.dlen (k := 60) (Nat.lt_of_le_of_lt (Int.natAbs_ediv_le_natAbs z P) SX.out) (by decide)) (by decide))).mono ?_
              rintro e z9 ⟨rfl, hb⟩
              have HB3 := hide (HB2.out.trans (hb.mono HB2.out.size))
              clear hb r0 r1 s0 s1
              go_wp2
              go_ret
              exact ⟨rfl, HB3.out⟩
          · rcases HO.out with ⟨_, rfl, rfl⟩ | ⟨d2, _, _⟩
            · clear d1 C2 HO
              go_wp2_with fail
              refine (zero_yes _ _ TR2.out).mono ?_
              rintro e z9 ⟨rfl, hb⟩
              have HB3 := hide (HB2.out.trans (hb.mono HB2.out.size))
              clear hb r0 r1 s0 s1
              go_wp2
              go_ret
              exact ⟨rfl, HB3.out⟩
            · exact absurd d2 d1
        · go_simp
          have al := below_alloc z5 (.cells #[.bool false, .slice none 0 0] 46)
          have HF' := hide (HF.out.trans ((al).mono HF.out.size))
          have BXd := hide (Box2.new z5 46 (.bool false) (.slice none 0 0))
          replace TP := hide (TP.out.below (al))
          have GEd := hide (HF.out.size)
          refine hK _ _ (fun _ => HF'.out) ?_
          clear hK K HF al
          have HF := hide HF'.out
          clear HF'
          generalize z5.alloc (.cells #[.bool false, .slice none 0 0] 46) = wzd at *
          generalize z5.heap.size = gd at *
          refine Calm.one (i := 3) (l' := #[true, true, true, true, false, false, false, true, false, false]) (by kernel_rfl) rfl rfl rfl fun K hK => ?_
          go_simp
          refine (rover_any _ _ z (P : Int) _ (VP.out.step HF.out).int TP.out (Nat.le_trans (dlen2 SX.out) (by decide)) (dlen7P SP.out) HPP.out).mono ?_
          rintro e z6 ⟨vo, zo, bo, rfl, no, ho, hb⟩
          obtain ⟨so, mo, lo, ko, rfl, no⟩ := no.cells
          have HO := hide ho
          clear ho
          clear TP
          replace BXd := hide (BXd.out.step hb)
          have HF' := hide (HF.out.trans ((hb).mono HF.out.size))
          have TO := hide (no)
          refine hK _ _ (fun _ => HF'.out) ?_
          clear hK K HF hb no
          have HF := hide HF'.out
          clear HF'
          refine Calm.take (i := 4) (v := ?_) (a' := ?_) (l' := #[true, true, true, true, true, false, false, true, false, false]) (d := some 130) rfl (by kernel_rfl) (by kernel_rfl) (by kernel_rfl) (by kernel_rfl) (fun _ _ _ h => h) HF.out rfl ?_ rfl rfl ?_ ?_
          rotate_left
          · intro w' hF; clear hF; go_simp; try rfl
          rotate_left
          · simp only [Act.put]; exact rfl
          refine Calm.take (i := 5) (v := ?_) (a' := ?_) (l' := #[true, true, true, true, true, true, false, true, false, false]) (d := some 135) rfl (by kernel_rfl) (by kernel_rfl) (by kernel_rfl) (by kernel_rfl) (fun _ _ _ h => h) HF.out rfl ?_ rfl rfl ?_ ?_
          rotate_left
          · intro w' hF; clear hF; go_simp; try rfl
          rotate_left
          · simp only [Act.put]; exact rfl
          refine Calm.take (i := 6) (v := ?_) (a' := ?_) (l' := #[true, true, true, true, true, true, true, true, false, false]) (d := some 136) rfl (by kernel_rfl) (by kernel_rfl) (by kernel_rfl) (by kernel_rfl) (fun _ _ _ h => h) HF.out rfl ?_ rfl rfl ?_ ?_
          rotate_left
          · intro w' hF; clear hF; go_simp; try rfl
          rotate_left
          · simp only [Act.put]; exact rfl
          refine Calm.one (i := 8) (l' := #[true, true, true, true, true, true, true, true, true, false]) (by kernel_rfl) rfl rfl rfl fun K hK => ?_
          have LTS := GEd
          have hc0 := BXd.out.cell0
          have hc1 := BXd.out.cell1
          have hf0 := BXd.out.free 0
          have hf1 := BXd.out.free 1
          go_simp
          have HF' := hide (below_put HF.out (show z4.heap.size ≤ gd by have hx := LTS.out; omega) (.bool so) (.slice mo lo ko))
          replace TO := hide (TO.out.keep (BXd.out.keeps (by simp) (by simp) (.bool so) (.slice mo lo ko)))
          replace BXd := hide (BXd.out.put (.bool so) (.slice mo lo ko))
          refine hK _ _ (fun _ => HF'.out) ?_
          clear hK K HF hc0 hf0 hc1 hf1
          have HF := hide HF'.out
          clear HF'
          generalize ((z6.setCell ⟨gd, 0, none⟩ (.bool so)).setCell ⟨gd, 1, none⟩ (.slice mo lo ko)) = z7 at *
          refine Calm.take (i := 9) (v := ?_) (a' := ?_) (l' := #[true, true, true, true, true, true, true, true, true, true]) (d := some 15) rfl (by kernel_rfl) (by kernel_rfl) (by kernel_rfl) (by kernel_rfl) (fun _ _ _ h => h) HF.out rfl ?_ rfl rfl ?_ ?_
          rotate_left
          · intro w' hF; clear hF; go_simp; try rfl
          rotate_left
          · simp only [Act.put]; exact rfl
          refine Calm.done (by kernel_rfl) ?_
          have HB2 := hide (HB.out.trans (HF.out.mono HB.out.size))
          have BR2 := hide (BR.out.step HF.out)
          have TR2 := hide (TR.out.below HF.out)
          clear HF HB BR TR VP
          have r0 := BR2.out.cell0
          have r1 := BR2.out.cell1
          have s0 := BXd.out.cell0
          have s1 := BXd.out.cell1
          rcases C2.out with ⟨d1, rfl, rfl⟩ | ⟨d1, rfl, rfl⟩
          · rcases HO.out with ⟨d2, _, _⟩ | ⟨_, rfl, rfl⟩
            · exact absurd d1 d2
            · clear d1 C2 HO
              go_wp2_with fail
              refine (is_yes _ _ (z / (P : Int)) _ TR2.out TO.out (SzI.len (k := 60) (Nat.lt_of_le_of_lt (Int.natAbs_ediv_le_natAbs z P) SX.out) (by decide)) (Nat.le_trans (SzI.dlen (k := 60) (Nat.lt_of_le_of_lt (Int.natAbs_ediv_le_natAbs z P) SX.out) (by decide)) (by decide))).mono ?_
              rintro e z9 ⟨rfl, hb⟩
              have HB3 := hide (HB2.out.trans (hb.mono HB2.out.size))
              clear hb r0 r1 s0 s1
              go_wp2
              go_ret
              exact ⟨rfl, HB3.out⟩
          · rcases HO.out with ⟨_, rfl, rfl⟩ | ⟨d2, _, _⟩
            · clear d1 C2 HO
              go_wp2_with fail
              refine (zero_yes _ _ TR2.out).mono ?_
              rintro e z9 ⟨rfl, hb⟩
              have HB3 := hide (HB2.out.trans (hb.mono HB2.out.size))
              clear hb r0 r1 s0 s1
              go_wp2
              go_ret
              exact ⟨rfl, HB3.out⟩
            · exact absurd d2 d1
      · go_simp
        have al := below_alloc z4d (.cells #[.bool false, .slice none 0 0] 46)
        have HF' := hide (HF.out.trans ((al).mono HF.out.size))
        have BXd := hide (Box2.new z4d 46 (.bool false) (.slice none 0 0))
        have GEd := hide (HF.out.size)
        refine hK _ _ (fun _ => HF'.out) ?_
        clear hK K HF al
        have HF := hide HF'.out
        clear HF'
        generalize z4d.alloc (.cells #[.bool false, .slice none 0 0] 46) = wzd at *
        generalize z4d.heap.size = gd at *
        refine Calm.one (i := 2) (l' := #[true, true, true, false, false, false, false, true, false, false]) (by kernel_rfl) rfl rfl rfl fun K hK => ?_
        go_simp
        refine (HPW.out _).mono ?_
        rintro e z5 ⟨v5, rfl, n5, hb⟩
        replace BXd := hide (BXd.out.step hb)
        have HF' := hide (HF.out.trans ((hb).mono HF.out.size))
        have TP := hide (n5)
        refine hK _ _ (fun _ => HF'.out) ?_
        clear hK K HF hb n5
        have HF := hide HF'.out
        clear HF'
        refine Calm.one (i := 3) (l' := #[true, true, true, true, false, false, false, true, false, false]) (by kernel_rfl) rfl rfl rfl fun K hK => ?_
        go_simp
        refine (rover_any _ _ z (P : Int) _ (VP.out.step HF.out).int TP.out (Nat.le_trans (dlen2 SX.out) (by decide)) (dlen7P SP.out) HPP.out).mono ?_
        rintro e z6 ⟨vo, zo, bo, rfl, no, ho, hb⟩
        obtain ⟨so, mo, lo, ko, rfl, no⟩ := no.cells
        have HO := hide ho
        clear ho
        clear TP
        replace BXd := hide (BXd.out.step hb)
        have HF' := hide (HF.out.trans ((hb).mono HF.out.size))
        have TO := hide (no)
        refine hK _ _ (fun _ => HF'.out) ?_
        clear hK K HF hb no
        have HF := hide HF'.out
        clear HF'
        refine Calm.take (i := 4) (v := ?_) (a' := ?_) (l' := #[true, true, true, true, true, false, false, true, false, false]) (d := some 130) rfl (by kernel_rfl) (by kernel_rfl) (by kernel_rfl) (by kernel_rfl) (fun _ _ _ h => h) HF.out rfl ?_ rfl rfl ?_ ?_
        rotate_left
        · intro w' hF; clear hF; go_simp; try rfl
        rotate_left
        · simp only [Act.put]; exact rfl
        refine Calm.take (i := 5) (v := ?_) (a' := ?_) (l' := #[true, true, true, true, true, true, false, true, false, false]) (d := some 135) rfl (by kernel_rfl) (by kernel_rfl) (by kernel_rfl) (by kernel_rfl) (fun _ _ _ h => h) HF.out rfl ?_ rfl rfl ?_ ?_
        rotate_left
        · intro w' hF; clear hF; go_simp; try rfl
        rotate_left
        · simp only [Act.put]; exact rfl
        refine Calm.take (i := 6) (v := ?_) (a' := ?_) (l' := #[true, true, true, true, true, true, true, true, false, false]) (d := some 136) rfl (by kernel_rfl) (by kernel_rfl) (by kernel_rfl) (by kernel_rfl) (fun _ _ _ h => h) HF.out rfl ?_ rfl rfl ?_ ?_
        rotate_left
        · intro w' hF; clear hF; go_simp; try rfl
        rotate_left
        · simp only [Act.put]; exact rfl
        refine Calm.one (i := 8) (l' := #[true, true, true, true, true, true, true, true, true, false]) (by kernel_rfl) rfl rfl rfl fun K hK => ?_
        have LTS := GEd
        have hc0 := BXd.out.cell0
        have hc1 := BXd.out.cell1
        have hf0 := BXd.out.free 0
        have hf1 := BXd.out.free 1
        go_simp
        have HF' := hide (below_put HF.out (show z4.heap.size ≤ gd by have hx := LTS.out; omega) (.bool so) (.slice mo lo ko))
        replace TO := hide (TO.out.keep (BXd.out.keeps (by simp) (by simp) (.bool so) (.slice mo lo ko)))
        replace BXd := hide (BXd.out.put (.bool so) (.slice mo lo ko))
        refine hK _ _ (fun _ => HF'.out) ?_
        clear hK K HF hc0 hf0 hc1 hf1
        have HF := hide HF'.out
        clear HF'
        generalize ((z6.setCell ⟨gd, 0, none⟩ (.bool so)).setCell ⟨gd, 1, none⟩ (.slice mo lo ko)) = z7 at *
        refine Calm.take (i := 9) (v := ?_) (a' := ?_) (l' := #[true, true, true, true, true, true, true, true, true, true]) (d := some 15) rfl (by kernel_rfl) (by kernel_rfl) (by kernel_rfl) (by kernel_rfl) (fun _ _ _ h => h) HF.out rfl ?_ rfl rfl ?_ ?_
        rotate_left
        · intro w' hF; clear hF; go_simp; try rfl
        rotate_left
        · simp only [Act.put]; exact rfl
        refine Calm.done (by kernel_rfl) ?_
        have HB2 := hide (HB.out.trans (HF.out.mono HB.out.size))
        have BR2 := hide (BR.out.step HF.out)
        have TR2 := hide (TR.out.below HF.out)
        clear HF HB BR TR VP
        have r0 := BR2.out.cell0
        have r1 := BR2.out.cell1
        have s0 := BXd.out.cell0
        have s1 := BXd.out.cell1
        rcases C2.out with ⟨d1, rfl, rfl⟩ | ⟨d1, rfl, rfl⟩
        · rcases HO.out with ⟨d2, _, _⟩ | ⟨_, rfl, rfl⟩
          · exact absurd d1 d2
          · clear d1 C2 HO
            go_wp2_with fail
            refine (is_yes _ _ (z / (P : Int)) _ TR2.out TO.out (SzI.len (k := 60) (Nat.lt_of_le_of_lt (Int.natAbs_ediv_le_natAbs z P) SX.out) (by decide)) (Nat.le_trans (SzI.dlen (k := 60) (Nat.lt_of_le_of_lt (Int.natAbs_ediv_le_natAbs z P) SX.out) (by decide)) (by decide))).mono ?_
            rintro e z9 ⟨rfl, hb⟩
            have HB3 := hide (HB2.out.trans (hb.mono HB2.out.size))
            clear hb r0 r1 s0 s1
            go_wp2
            go_ret
            exact ⟨rfl, HB3.out⟩
        · rcases HO.out with ⟨_, rfl, rfl⟩ | ⟨d2, _, _⟩
          · clear d1 C2 HO
            go_wp2_with fail
            refine (zero_yes _ _ TR2.out).mono ?_
            rintro e z9 ⟨rfl, hb⟩
            have HB3 := hide (HB2.out.trans (hb.mono HB2.out.size))
            clear hb r0 r1 s0 s1
            go_wp2
            go_ret
            exact ⟨rfl, HB3.out⟩
          · exact absurd d2 d1
end Go.Proofs.YtmibgcpafccliaaDoor
