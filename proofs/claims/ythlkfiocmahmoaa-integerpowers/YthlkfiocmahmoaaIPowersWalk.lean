/- swagelaw02.IntegerPowers answers true at all numbers and all exponents, and turns nothing that was there. -/
import Derived.Test.YthlkfiocmahmoaaIPow
import Derived.Test.YthlkfiocmahmoaaR2Pow
import Derived.Test.YthlkfiocmahmoaaIZero
import Derived.Test.YthlkfiocmahmoaaCalm3
import Derived.Deep.Cut
namespace Go.Proofs.Ythlkfiocmahmoaa
open Go.RowKit

theorem SzI.pow {k : Nat} {x : Int} (h : SzI k x) (i : Nat) : SzI (k * i + 1) (x ^ i) := by
  unfold SzI at *
  rw [Int.natAbs_pow]
  have h1 : x.natAbs ^ i ≤ (BB ^ k) ^ i := Nat.pow_le_pow_left (Nat.le_of_lt h) i
  rw [← Nat.pow_mul] at h1
  exact Nat.lt_of_le_of_lt h1 (Nat.pow_lt_pow_right (by decide) (Nat.lt_succ_self _))
theorem pow_dlen {x : Int} (h : SzI 60 x) {i : Nat} (hi : i ≤ 100) : (D.lim (x ^ i).natAbs).length ≤ 100000000 := SzI.dlen (h.pow i) (by omega)
theorem pow_llen {x : Int} (h : SzI 60 x) {i : Nat} (hi : i ≤ 100) : (lim (x ^ i).natAbs).length ≤ 1000000000 := SzI.len (h.pow i) (by omega)
theorem pow_cyc (x : Int) (h : x * x * x = x) (n q : Nat) (hn : 1 ≤ n) : x ^ (n + 2 * q) = x ^ n := by
  induction q with
  | zero => rfl
  | succ q ih =>
    obtain ⟨m, rfl⟩ : ∃ m, n = m + 1 := ⟨n - 1, by omega⟩
    rw [← ih, show m + 1 + 2 * (q + 1) = m + 2 * q + 1 + 1 + 1 by omega, show m + 1 + 2 * q = m + 2 * q + 1 by omega, Int.pow_succ, Int.pow_succ, Int.pow_succ, Int.mul_assoc, Int.mul_assoc, ← Int.mul_assoc x x x, h]
theorem small_cyc {x : Int} {L E : Nat} (h : IsLen x.natAbs L) (hL : L ≤ 1) (hE : 2 < E) : x ^ E = x ^ (2 + E % 2) := by
  have hx : x.natAbs < 2 := Nat.lt_of_lt_of_le h.1 (Nat.pow_le_pow_right (n := 2) (by decide) hL)
  have h3 : x * x * x = x := by
    have : x = -1 ∨ x = 0 ∨ x = 1 := by omega
    rcases this with rfl | rfl | rfl <;> rfl
  rw [show E = 2 + E % 2 + 2 * ((E - 2 - E % 2) / 2) by omega, pow_cyc x h3 _ _ (by omega)]
  congr 1
  omega
theorem len_same {x : Int} {L M : Nat} (h : IsLen x.natAbs L) (h0 : L ≤ 32 * (lim x.natAbs).length) (k : IsLen x.natAbs M) (k0 : M ≤ 16 * (D.lim x.natAbs).length) : M = L := by
  rcases Nat.eq_zero_or_pos x.natAbs with e | e
  · rw [e, lim_zero] at h0
    rw [e, D.lim_zero] at k0
    simp at h0 k0
    omega
  · exact k.only h e

set_option maxRecDepth 100000 in
set_option maxHeartbeats 20000000 in
theorem ipowers_walk (b0 : Bool) (a0 : Option Addr) (c0 : Nat) (xs : List Nat) (ex : Int) (w : World) (h0 : Nums w (.slice a0 xs.length c0) xs) (hlo : -9223372036854775808 ≤ ex) (hhi : ex ≤ 9223372036854775807) :
    Calls Try.prog 5 #[.agg #[.bool b0, .slice a0 xs.length c0], .int .i64 ex] w fun e w' => e = .returned (.bool true) ∧ Below w.heap.size w w' := by
  have hm0 := nums_len h0
  have HM := hide hm0
  unfold maxLen at hm0
  have HN0 := hide h0
  clear h0
  have HE := hide (nboxes1 24 w (.bool b0) (.slice a0 xs.length c0))
  have HB := hide (HE.out.2)
  have P0 := hide (HE.out.1)
  replace HN0 := hide (HN0.out.below HE.out.2)
  clear HE
  go_enter Try.func5, Try.ntmps5
  go_wp2_with fail
  refine (live_any _).mono ?_
  rintro e w1 ⟨rfl, hb⟩
  replace HB := hide (HB.out.trans ((hb).mono HB.out.size))
  replace P0 := hide (P0.out.step (hb))
  replace HN0 := hide (HN0.out.below (hb))
  have p0 := P0.out.cell0
  have p1 := P0.out.cell1
  clear hb
  go_wp2_with fail
  refine (long_any _ [xs.length] _ (lens_lit _ _ (by simp [maxLen]) (by
    intro i hi
    match i, hi with
    | 0, _ => exact ⟨a0, c0, by simp, HM.out⟩))).mono ?_
  rintro e w2 ⟨he, hb⟩
  clear p0 p1
  have hb' := (below_alloc w1 _).trans (hb.mono (by simp))
  replace HB := hide (HB.out.trans ((hb').mono HB.out.size))
  replace P0 := hide (P0.out.step (hb'))
  replace HN0 := hide (HN0.out.below (hb'))
  clear hb hb'
  cases hq : [xs.length].any (fun m => decide (60 < m)) with
  | true =>
    rw [hq] at he
    subst he
    clear hq
    go_wp2
    go_ret
    exact ⟨rfl, HB.out⟩
  | false =>
  rw [hq] at he
  subst he
  have g0 : xs.length ≤ 60 := by
    simp at hq; omega
  clear hq
  have SX : Hid (SzI 60 (sg b0 (val xs))) := SzI.of HN0.out.ok g0
  have p0 := P0.out.cell0
  have p1 := P0.out.cell1
  go_wp2_with fail
  refine (of_any b0 a0 c0 xs _ HN0.out (by omega)).mono ?_
  rintro e q0 ⟨v, u, rfl, hI, hR, hb⟩
  generalize sg b0 (val xs) = z at *
  obtain ⟨sx, nx, mx, kx, rfl, hn, he, h0⟩ := hI
  obtain ⟨sp, np, mp, kp, rfl, hn', he', h0'⟩ := hR
  clear p0 p1
  replace HB := hide (HB.out.trans ((hb).mono HB.out.size))
  replace P0 := hide (P0.out.step (hb))
  replace HN0 := hide (HN0.out.below (hb))
  have hI : IntAt q0 (.agg #[.bool sx, .slice mx (lim nx).length kx]) z := ⟨sx, nx, mx, kx, rfl, hn, he, h0⟩
  have hR : RInt q0 (.agg #[.bool sp, .slice mp (D.lim np).length kp]) z := ⟨sp, np, mp, kp, rfl, hn', he', h0'⟩
  replace HB := hide (HB.out.trans ((below_alloc q0 (.cells #[.bool sx, .slice mx (lim nx).length kx] 28)).mono HB.out.size))
  replace P0 := hide (P0.out.step (below_alloc q0 (.cells #[.bool sx, .slice mx (lim nx).length kx] 28)))
  replace HN0 := hide (HN0.out.below (below_alloc q0 (.cells #[.bool sx, .slice mx (lim nx).length kx] 28)))
  have VX := hide (hI.var)
  have hR2 := hR.below (below_alloc q0 (.cells #[.bool sx, .slice mx (lim nx).length kx] 28))
  replace HB := hide (HB.out.trans ((below_alloc (q0.alloc (.cells #[.bool sx, .slice mx (lim nx).length kx] 28)) (.cells #[.bool sp, .slice mp (D.lim np).length kp] 30)).mono HB.out.size))
  replace P0 := hide (P0.out.step (below_alloc (q0.alloc (.cells #[.bool sx, .slice mx (lim nx).length kx] 28)) (.cells #[.bool sp, .slice mp (D.lim np).length kp] 30)))
  replace HN0 := hide (HN0.out.below (below_alloc (q0.alloc (.cells #[.bool sx, .slice mx (lim nx).length kx] 28)) (.cells #[.bool sp, .slice mp (D.lim np).length kp] 30)))
  replace VX := hide (VX.out.step (below_alloc (q0.alloc (.cells #[.bool sx, .slice mx (lim nx).length kx] 28)) (.cells #[.bool sp, .slice mp (D.lim np).length kp] 30)))
  have VP := hide (hR2.var)
  rw [World.size_alloc] at VP
  clear hb hn he h0 hn' he' h0' hI hR hR2 g0 hm0
  clear P0
  clear HN0
  go_upto_region 6 with fail
  generalize (q0.alloc (.cells #[.bool sx, .slice mx (lim nx).length kx] 28)).alloc (.cells #[.bool sp, .slice mp (D.lim np).length kp] 30) = w7 at *
  generalize q0.heap.size = gx at *
  generalize (lim nx).length = lx at *
  generalize (D.lim np).length = lp at *
  have x0 := VX.out.box.cell0
  have x1 := VX.out.box.cell1
  go_wp2_with fail
  refine (ipow_any _ z ex _ VX.out.int (Nat.le_trans (lim_length_le SX.out) (by decide)) hlo hhi).mono ?_
  rintro e u1 ⟨vo, zo, fo, L, rfl, nO, hL, hLb, hpw, hb⟩
  obtain ⟨so, mo, lo, ko, rfl, nO⟩ := nO.cells
  replace HB := hide (HB.out.trans ((hb).mono HB.out.size))
  replace VX := hide (VX.out.step (hb))
  replace VP := hide (VP.out.step (hb))
  clear VX
  have TO := hide (nO)
  have HL := hide hL
  have HLB := hide hLb
  have HPW := hide hpw
  have hLs : L ≤ 2000 := Nat.le_trans hLb (Nat.le_trans (Nat.mul_le_mul_left 32 (lim_length_le SX.out)) (by decide))
  clear hb nO hL hLb hpw x0 x1
  go_upto_region 7 with fail
  replace HB := hide (HB.out.trans ((below_alloc u1 (.cells #[.bool so, .slice mo lo ko] 28)).mono HB.out.size))
  replace VP := hide (VP.out.step (below_alloc u1 (.cells #[.bool so, .slice mo lo ko] 28)))
  replace TO := hide (TO.out.below (below_alloc u1 (.cells #[.bool so, .slice mo lo ko] 28)))
  have BO := hide (Box.new u1 (.bool so) (.slice mo lo ko))
  generalize u1.alloc (.cells #[.bool so, .slice mo lo ko] 28) = w8 at *
  generalize u1.heap.size = go at *
  rcases HPW.out with ⟨hneg, rfl, rfl⟩ | ⟨hnn, hL0, hlong, rfl, rfl⟩ | ⟨hnn, hfit, rfl, rfl⟩
  all_goals clear HPW
  · have o0 := BO.out.cell0
    have o1 := BO.out.cell1
    go_wp2_with fail
    refine (zero_yes _ _ TO.out).mono ?_
    rintro e t1 ⟨rfl, hb⟩
    clear o0 o1
    replace HB := hide (HB.out.trans ((hb).mono HB.out.size))
    replace VP := hide (VP.out.step (hb))
    replace TO := hide (TO.out.below (hb))
    replace BO := hide (BO.out.step (hb))
    clear hb
    go_wp2
    go_ret
    exact ⟨rfl, HB.out⟩
  · obtain ⟨E, hE⟩ : ∃ E : Nat, ex = (E : Int) := ⟨ex.toNat, by omega⟩
    subst hE
    clear hnn hlo
    have hl3 : (65536 : Int) / (L : Int) < (E : Int) := by have := quo_cast L; omega
    clear hlong
    have y0 := VP.out.box.cell0
    have y1 := VP.out.box.cell1
    go_wp2_with fail
    refine (rbitz_any _ z _ VP.out.int (SzI.dlen SX.out (by decide))).mono ?_
    rintro e t1 ⟨M, rfl, hM, hMb, hb⟩
    obtain rfl := len_same HL.out HLB.out hM hMb
    clear y0 y1 hM hMb
    replace HB := hide (HB.out.trans ((hb).mono HB.out.size))
    replace VP := hide (VP.out.step (hb))
    replace TO := hide (TO.out.below (hb))
    replace BO := hide (BO.out.step (hb))
    clear hb
    have o0 := BO.out.cell0
    have o1 := BO.out.cell1
    go_wp2_with fail
    refine (zero_yes _ _ TO.out).mono ?_
    rintro e t2 ⟨rfl, hb⟩
    clear o0 o1
    replace HB := hide (HB.out.trans ((hb).mono HB.out.size))
    replace VP := hide (VP.out.step (hb))
    replace TO := hide (TO.out.below (hb))
    replace BO := hide (BO.out.step (hb))
    clear hb
    go_wp2
    go_ret
    exact ⟨rfl, HB.out⟩
  · obtain ⟨E, hE⟩ : ∃ E : Nat, ex = (E : Int) := ⟨ex.toNat, by omega⟩
    subst hE
    clear hnn hlo
    rw [Int.toNat_natCast] at TO
    have hEb : E ≤ 9223372036854775807 := by omega
    clear hhi
    have y0 := VP.out.box.cell0
    have y1 := VP.out.box.cell1
    go_wp2_with fail
    refine (rbitz_any _ z _ VP.out.int (SzI.dlen SX.out (by decide))).mono ?_
    rintro e t1 ⟨M, rfl, hM, hMb, hb⟩
    obtain rfl := len_same HL.out HLB.out hM hMb
    clear y0 y1 hM hMb
    replace HB := hide (HB.out.trans ((hb).mono HB.out.size))
    replace VP := hide (VP.out.step (hb))
    replace TO := hide (TO.out.below (hb))
    replace BO := hide (BO.out.step (hb))
    clear hb
    skip
    by_cases hbig : 60 < E ∧ 1 < M
    · obtain ⟨hb1, hb2⟩ := hbig
      have hl3 : ¬ (65536 : Int) / (M : Int) < (E : Int) := by have := quo_cast M; omega
      clear hfit
      go_wp2
      go_ret
      exact ⟨rfl, HB.out⟩
    · by_cases hcyc : 2 < E ∧ M ≤ 1
      · obtain ⟨hb1, hb2⟩ := hcyc
        rw [small_cyc HL.out hb2 hb1] at TO
        clear hbig
        have hmod : E % 2 < 2 := Nat.mod_lt _ (by decide)
        by_cases hM0 : M = 0
        · subst hM0
          clear hfit
          by_cases h60 : 60 < E
          · have h60' : (60 : Int) < (E : Int) := by omega
            go_wp2_with fail
            refine wp_calm (fun w' => Below w.heap.size w w' ∧ Box w' go (.bool so) (.slice mo lo ko) ∧ RVar w' (gx + 1) sp mp lp kp z ∧ IntAt w' (.agg #[.bool so, .slice mo lo ko]) (z ^ (2 + E % 2))) (fun _ => true) 10 #[false, false, false, false, false, false, false, false, false, false] (by kernel_rfl) rfl rfl ?_
            have HF := hide (And.intro (HB.out.drew) (And.intro (BO.out.drew) (And.intro (VP.out.drew) (TO.out.drew))))
            generalize t1.drew = t1d at *
            refine Calm.take (i := 0) (v := ?_) (a' := ?_) (l' := #[true, false, false, false, false, false, false, false, false, false]) (d := some 67) rfl (by kernel_rfl) (by kernel_rfl) (by kernel_rfl) (by kernel_rfl) (fun _ _ _ h => h) HF.out rfl ?_ rfl rfl ?_ ?_
            rotate_left
            · intro w' hF; clear hF; go_simp; try rfl
            rotate_left
            · simp only [Act.put]; exact rfl
            refine Calm.take (i := 1) (v := ?_) (a' := ?_) (l' := #[true, true, false, false, false, false, false, false, false, false]) (d := some 68) rfl (by kernel_rfl) (by kernel_rfl) (by kernel_rfl) (by kernel_rfl) (fun _ _ _ h => h) HF.out rfl ?_ rfl rfl ?_ ?_
            rotate_left
            · intro w' hF; clear hF; go_simp; try rfl
            rotate_left
            · simp only [Act.put]; exact rfl
            refine Calm.take (i := 2) (v := ?_) (a' := ?_) (l' := #[true, true, true, false, false, false, false, false, false, false]) (d := some 69) rfl (by kernel_rfl) (by kernel_rfl) (by kernel_rfl) (by kernel_rfl) (fun _ _ _ h => h) HF.out rfl ?_ rfl rfl ?_ ?_
            rotate_left
            · intro w' hF; clear hF; go_simp; try rfl
            rotate_left
            · simp only [Act.put]; exact rfl
            refine Calm.take (i := 3) (v := ?_) (a' := ?_) (l' := #[true, true, true, true, false, false, false, false, false, false]) (d := some 70) rfl (by kernel_rfl) (by kernel_rfl) (by kernel_rfl) (by kernel_rfl) (fun _ _ _ h => h) HF.out (by kernel_rfl) ?_ rfl rfl ?_ ?_
            rotate_left
            · intro w' hF; have f10 := hF.2.1.cell0; have f11 := hF.2.1.cell1; have f20 := hF.2.2.1.box.cell0; have f21 := hF.2.2.1.box.cell1; clear hF; go_simp; try rfl
            rotate_left
            · simp only [Act.put]; exact rfl
            refine Calm.take (i := 4) (v := ?_) (a' := ?_) (l' := #[true, true, true, true, true, false, false, false, false, false]) (d := some 71) rfl (by kernel_rfl) (by kernel_rfl) (by kernel_rfl) (by kernel_rfl) (fun _ _ _ h => h) HF.out (by kernel_rfl) ?_ rfl rfl ?_ ?_
            rotate_left
            · intro w' hF; have f10 := hF.2.1.cell0; have f11 := hF.2.1.cell1; have f20 := hF.2.2.1.box.cell0; have f21 := hF.2.2.1.box.cell1; clear hF; go_simp; try rfl
            rotate_left
            · simp only [Act.put]; exact rfl
            refine Calm.take (i := 5) (v := ?_) (a' := ?_) (l' := #[true, true, true, true, true, true, false, false, false, false]) (d := some 72) rfl (by kernel_rfl) (by kernel_rfl) (by kernel_rfl) (by kernel_rfl) (fun _ _ _ h => h) HF.out (by kernel_rfl) ?_ rfl rfl ?_ ?_
            rotate_left
            · intro w' hF; clear hF; go_simp; try rfl
            rotate_left
            · simp only [Act.put]; exact rfl
            refine Calm.one (i := 6) (l' := #[true, true, true, true, true, true, true, false, false, false]) (by kernel_rfl) rfl (by kernel_rfl) rfl fun K hK => ?_
            go_simp
            rw [show (2 + (E : Int) % 2) = ((2 + E % 2 : Nat) : Int) by omega]
            refine (rpow_any _ z (2 + E % 2) _ HF.out.2.2.1.int (by omega) (fun i hi => pow_dlen SX.out (by omega)) (SzI.dlen SX.out (by decide))).mono ?_
            rintro e t2 ⟨v2, rfl, n2, hb⟩
            have HF' := hide (And.intro (HF.out.1.trans ((hb).mono HF.out.1.size)) (And.intro (HF.out.2.1.step (hb)) (And.intro (HF.out.2.2.1.step (hb)) (HF.out.2.2.2.below (hb)))))
            have TW := hide (n2)
            refine hK _ _ (fun _ => HF'.out) ?_
            clear hK K HF hb n2
            have HF := hide HF'.out
            clear HF'
            refine Calm.one (i := 7) (l' := #[true, true, true, true, true, true, true, true, false, false]) (by kernel_rfl) rfl (by kernel_rfl) rfl fun K hK => ?_
            go_simp
            refine (is_yes _ _ (z ^ (2 + E % 2)) _ HF.out.2.2.2 TW.out (pow_llen SX.out (by omega)) (Nat.le_trans (pow_dlen SX.out (by omega)) (by decide))).mono ?_
            rintro e t3 ⟨rfl, hb⟩
            clear TW
            have HF' := hide (And.intro (HF.out.1.trans ((hb).mono HF.out.1.size)) (And.intro (HF.out.2.1.step (hb)) (And.intro (HF.out.2.2.1.step (hb)) (HF.out.2.2.2.below (hb)))))
            refine hK _ _ (fun _ => HF'.out) ?_
            clear hK K HF hb
            have HF := hide HF'.out
            clear HF'
            refine Calm.take (i := 8) (v := ?_) (a' := ?_) (l' := #[true, true, true, true, true, true, true, true, true, false]) (d := some 75) rfl (by kernel_rfl) (by kernel_rfl) (by kernel_rfl) (by kernel_rfl) (fun _ _ _ h => h) HF.out rfl ?_ rfl rfl ?_ ?_
            rotate_left
            · intro w' hF; clear hF; go_simp; try rfl
            rotate_left
            · simp only [Act.put]; exact rfl
            refine Calm.take (i := 9) (v := ?_) (a' := ?_) (l' := #[true, true, true, true, true, true, true, true, true, true]) (d := some 4) rfl (by kernel_rfl) (by kernel_rfl) (by kernel_rfl) (by kernel_rfl) (fun _ _ _ h => h) HF.out rfl ?_ rfl rfl ?_ ?_
            rotate_left
            · intro w' hF; clear hF; go_simp; try rfl
            rotate_left
            · simp only [Act.put]; exact rfl
            refine Calm.done (by kernel_rfl) ?_
            go_wp2
            go_ret
            exact ⟨rfl, HF.out.1⟩
          · have h60' : ¬ (60 : Int) < (E : Int) := by omega
            go_wp2_with fail
            refine wp_calm (fun w' => Below w.heap.size w w' ∧ Box w' go (.bool so) (.slice mo lo ko) ∧ RVar w' (gx + 1) sp mp lp kp z ∧ IntAt w' (.agg #[.bool so, .slice mo lo ko]) (z ^ (2 + E % 2))) (fun _ => true) 10 #[false, false, false, false, false, false, false, false, false, false] (by kernel_rfl) rfl rfl ?_
            have HF := hide (And.intro (HB.out.drew) (And.intro (BO.out.drew) (And.intro (VP.out.drew) (TO.out.drew))))
            generalize t1.drew = t1d at *
            refine Calm.take (i := 0) (v := ?_) (a' := ?_) (l' := #[true, false, false, false, false, false, false, false, false, false]) (d := some 67) rfl (by kernel_rfl) (by kernel_rfl) (by kernel_rfl) (by kernel_rfl) (fun _ _ _ h => h) HF.out rfl ?_ rfl rfl ?_ ?_
            rotate_left
            · intro w' hF; clear hF; go_simp; try rfl
            rotate_left
            · simp only [Act.put]; exact rfl
            refine Calm.take (i := 1) (v := ?_) (a' := ?_) (l' := #[true, true, false, false, false, false, false, false, false, false]) (d := some 68) rfl (by kernel_rfl) (by kernel_rfl) (by kernel_rfl) (by kernel_rfl) (fun _ _ _ h => h) HF.out rfl ?_ rfl rfl ?_ ?_
            rotate_left
            · intro w' hF; clear hF; go_simp; try rfl
            rotate_left
            · simp only [Act.put]; exact rfl
            refine Calm.take (i := 2) (v := ?_) (a' := ?_) (l' := #[true, true, true, false, false, false, false, false, false, false]) (d := some 69) rfl (by kernel_rfl) (by kernel_rfl) (by kernel_rfl) (by kernel_rfl) (fun _ _ _ h => h) HF.out rfl ?_ rfl rfl ?_ ?_
            rotate_left
            · intro w' hF; clear hF; go_simp; try rfl
            rotate_left
            · simp only [Act.put]; exact rfl
            refine Calm.take (i := 3) (v := ?_) (a' := ?_) (l' := #[true, true, true, true, false, false, false, false, false, false]) (d := some 70) rfl (by kernel_rfl) (by kernel_rfl) (by kernel_rfl) (by kernel_rfl) (fun _ _ _ h => h) HF.out (by kernel_rfl) ?_ rfl rfl ?_ ?_
            rotate_left
            · intro w' hF; have f10 := hF.2.1.cell0; have f11 := hF.2.1.cell1; have f20 := hF.2.2.1.box.cell0; have f21 := hF.2.2.1.box.cell1; clear hF; go_simp; try rfl
            rotate_left
            · simp only [Act.put]; exact rfl
            refine Calm.take (i := 4) (v := ?_) (a' := ?_) (l' := #[true, true, true, true, true, false, false, false, false, false]) (d := some 71) rfl (by kernel_rfl) (by kernel_rfl) (by kernel_rfl) (by kernel_rfl) (fun _ _ _ h => h) HF.out (by kernel_rfl) ?_ rfl rfl ?_ ?_
            rotate_left
            · intro w' hF; have f10 := hF.2.1.cell0; have f11 := hF.2.1.cell1; have f20 := hF.2.2.1.box.cell0; have f21 := hF.2.2.1.box.cell1; clear hF; go_simp; try rfl
            rotate_left
            · simp only [Act.put]; exact rfl
            refine Calm.take (i := 5) (v := ?_) (a' := ?_) (l' := #[true, true, true, true, true, true, false, false, false, false]) (d := some 72) rfl (by kernel_rfl) (by kernel_rfl) (by kernel_rfl) (by kernel_rfl) (fun _ _ _ h => h) HF.out (by kernel_rfl) ?_ rfl rfl ?_ ?_
            rotate_left
            · intro w' hF; clear hF; go_simp; try rfl
            rotate_left
            · simp only [Act.put]; exact rfl
            refine Calm.one (i := 6) (l' := #[true, true, true, true, true, true, true, false, false, false]) (by kernel_rfl) rfl (by kernel_rfl) rfl fun K hK => ?_
            go_simp
            rw [show (2 + (E : Int) % 2) = ((2 + E % 2 : Nat) : Int) by omega]
            refine (rpow_any _ z (2 + E % 2) _ HF.out.2.2.1.int (by omega) (fun i hi => pow_dlen SX.out (by omega)) (SzI.dlen SX.out (by decide))).mono ?_
            rintro e t2 ⟨v2, rfl, n2, hb⟩
            have HF' := hide (And.intro (HF.out.1.trans ((hb).mono HF.out.1.size)) (And.intro (HF.out.2.1.step (hb)) (And.intro (HF.out.2.2.1.step (hb)) (HF.out.2.2.2.below (hb)))))
            have TW := hide (n2)
            refine hK _ _ (fun _ => HF'.out) ?_
            clear hK K HF hb n2
            have HF := hide HF'.out
            clear HF'
            refine Calm.one (i := 7) (l' := #[true, true, true, true, true, true, true, true, false, false]) (by kernel_rfl) rfl (by kernel_rfl) rfl fun K hK => ?_
            go_simp
            refine (is_yes _ _ (z ^ (2 + E % 2)) _ HF.out.2.2.2 TW.out (pow_llen SX.out (by omega)) (Nat.le_trans (pow_dlen SX.out (by omega)) (by decide))).mono ?_
            rintro e t3 ⟨rfl, hb⟩
            clear TW
            have HF' := hide (And.intro (HF.out.1.trans ((hb).mono HF.out.1.size)) (And.intro (HF.out.2.1.step (hb)) (And.intro (HF.out.2.2.1.step (hb)) (HF.out.2.2.2.below (hb)))))
            refine hK _ _ (fun _ => HF'.out) ?_
            clear hK K HF hb
            have HF := hide HF'.out
            clear HF'
            refine Calm.take (i := 8) (v := ?_) (a' := ?_) (l' := #[true, true, true, true, true, true, true, true, true, false]) (d := some 75) rfl (by kernel_rfl) (by kernel_rfl) (by kernel_rfl) (by kernel_rfl) (fun _ _ _ h => h) HF.out rfl ?_ rfl rfl ?_ ?_
            rotate_left
            · intro w' hF; clear hF; go_simp; try rfl
            rotate_left
            · simp only [Act.put]; exact rfl
            refine Calm.take (i := 9) (v := ?_) (a' := ?_) (l' := #[true, true, true, true, true, true, true, true, true, true]) (d := some 4) rfl (by kernel_rfl) (by kernel_rfl) (by kernel_rfl) (by kernel_rfl) (fun _ _ _ h => h) HF.out rfl ?_ rfl rfl ?_ ?_
            rotate_left
            · intro w' hF; clear hF; go_simp; try rfl
            rotate_left
            · simp only [Act.put]; exact rfl
            refine Calm.done (by kernel_rfl) ?_
            go_wp2
            go_ret
            exact ⟨rfl, HF.out.1⟩
        · have hM1 : 0 < M := by omega
          have hl3 : ¬ (65536 : Int) / (M : Int) < (E : Int) := by have := quo_cast M; omega
          clear hfit hM0
          by_cases h60 : 60 < E
          · have h60' : (60 : Int) < (E : Int) := by omega
            go_wp2_with fail
            refine wp_calm (fun w' => Below w.heap.size w w' ∧ Box w' go (.bool so) (.slice mo lo ko) ∧ RVar w' (gx + 1) sp mp lp kp z ∧ IntAt w' (.agg #[.bool so, .slice mo lo ko]) (z ^ (2 + E % 2))) (fun _ => true) 10 #[false, false, false, false, false, false, false, false, false, false] (by kernel_rfl) rfl rfl ?_
            have HF := hide (And.intro (HB.out.drew) (And.intro (BO.out.drew) (And.intro (VP.out.drew) (TO.out.drew))))
            generalize t1.drew = t1d at *
            refine Calm.take (i := 0) (v := ?_) (a' := ?_) (l' := #[true, false, false, false, false, false, false, false, false, false]) (d := some 67) rfl (by kernel_rfl) (by kernel_rfl) (by kernel_rfl) (by kernel_rfl) (fun _ _ _ h => h) HF.out rfl ?_ rfl rfl ?_ ?_
            rotate_left
            · intro w' hF; clear hF; go_simp; try rfl
            rotate_left
            · simp only [Act.put]; exact rfl
            refine Calm.take (i := 1) (v := ?_) (a' := ?_) (l' := #[true, true, false, false, false, false, false, false, false, false]) (d := some 68) rfl (by kernel_rfl) (by kernel_rfl) (by kernel_rfl) (by kernel_rfl) (fun _ _ _ h => h) HF.out rfl ?_ rfl rfl ?_ ?_
            rotate_left
            · intro w' hF; clear hF; go_simp; try rfl
            rotate_left
            · simp only [Act.put]; exact rfl
            refine Calm.take (i := 2) (v := ?_) (a' := ?_) (l' := #[true, true, true, false, false, false, false, false, false, false]) (d := some 69) rfl (by kernel_rfl) (by kernel_rfl) (by kernel_rfl) (by kernel_rfl) (fun _ _ _ h => h) HF.out rfl ?_ rfl rfl ?_ ?_
            rotate_left
            · intro w' hF; clear hF; go_simp; try rfl
            rotate_left
            · simp only [Act.put]; exact rfl
            refine Calm.take (i := 3) (v := ?_) (a' := ?_) (l' := #[true, true, true, true, false, false, false, false, false, false]) (d := some 70) rfl (by kernel_rfl) (by kernel_rfl) (by kernel_rfl) (by kernel_rfl) (fun _ _ _ h => h) HF.out (by kernel_rfl) ?_ rfl rfl ?_ ?_
            rotate_left
            · intro w' hF; have f10 := hF.2.1.cell0; have f11 := hF.2.1.cell1; have f20 := hF.2.2.1.box.cell0; have f21 := hF.2.2.1.box.cell1; clear hF; go_simp; try rfl
            rotate_left
            · simp only [Act.put]; exact rfl
            refine Calm.take (i := 4) (v := ?_) (a' := ?_) (l' := #[true, true, true, true, true, false, false, false, false, false]) (d := some 71) rfl (by kernel_rfl) (by kernel_rfl) (by kernel_rfl) (by kernel_rfl) (fun _ _ _ h => h) HF.out (by kernel_rfl) ?_ rfl rfl ?_ ?_
            rotate_left
            · intro w' hF; have f10 := hF.2.1.cell0; have f11 := hF.2.1.cell1; have f20 := hF.2.2.1.box.cell0; have f21 := hF.2.2.1.box.cell1; clear hF; go_simp; try rfl
            rotate_left
            · simp only [Act.put]; exact rfl
            refine Calm.take (i := 5) (v := ?_) (a' := ?_) (l' := #[true, true, true, true, true, true, false, false, false, false]) (d := some 72) rfl (by kernel_rfl) (by kernel_rfl) (by kernel_rfl) (by kernel_rfl) (fun _ _ _ h => h) HF.out (by kernel_rfl) ?_ rfl rfl ?_ ?_
            rotate_left
            · intro w' hF; clear hF; go_simp; try rfl
            rotate_left
            · simp only [Act.put]; exact rfl
            refine Calm.one (i := 6) (l' := #[true, true, true, true, true, true, true, false, false, false]) (by kernel_rfl) rfl (by kernel_rfl) rfl fun K hK => ?_
            go_simp
            rw [show (2 + (E : Int) % 2) = ((2 + E % 2 : Nat) : Int) by omega]
            refine (rpow_any _ z (2 + E % 2) _ HF.out.2.2.1.int (by omega) (fun i hi => pow_dlen SX.out (by omega)) (SzI.dlen SX.out (by decide))).mono ?_
            rintro e t2 ⟨v2, rfl, n2, hb⟩
            have HF' := hide (And.intro (HF.out.1.trans ((hb).mono HF.out.1.size)) (And.intro (HF.out.2.1.step (hb)) (And.intro (HF.out.2.2.1.step (hb)) (HF.out.2.2.2.below (hb)))))
            have TW := hide (n2)
            refine hK _ _ (fun _ => HF'.out) ?_
            clear hK K HF hb n2
            have HF := hide HF'.out
            clear HF'
            refine Calm.one (i := 7) (l' := #[true, true, true, true, true, true, true, true, false, false]) (by kernel_rfl) rfl (by kernel_rfl) rfl fun K hK => ?_
            go_simp
            refine (is_yes _ _ (z ^ (2 + E % 2)) _ HF.out.2.2.2 TW.out (pow_llen SX.out (by omega)) (Nat.le_trans (pow_dlen SX.out (by omega)) (by decide))).mono ?_
            rintro e t3 ⟨rfl, hb⟩
            clear TW
            have HF' := hide (And.intro (HF.out.1.trans ((hb).mono HF.out.1.size)) (And.intro (HF.out.2.1.step (hb)) (And.intro (HF.out.2.2.1.step (hb)) (HF.out.2.2.2.below (hb)))))
            refine hK _ _ (fun _ => HF'.out) ?_
            clear hK K HF hb
            have HF := hide HF'.out
            clear HF'
            refine Calm.take (i := 8) (v := ?_) (a' := ?_) (l' := #[true, true, true, true, true, true, true, true, true, false]) (d := some 75) rfl (by kernel_rfl) (by kernel_rfl) (by kernel_rfl) (by kernel_rfl) (fun _ _ _ h => h) HF.out rfl ?_ rfl rfl ?_ ?_
            rotate_left
            · intro w' hF; clear hF; go_simp; try rfl
            rotate_left
            · simp only [Act.put]; exact rfl
            refine Calm.take (i := 9) (v := ?_) (a' := ?_) (l' := #[true, true, true, true, true, true, true, true, true, true]) (d := some 4) rfl (by kernel_rfl) (by kernel_rfl) (by kernel_rfl) (by kernel_rfl) (fun _ _ _ h => h) HF.out rfl ?_ rfl rfl ?_ ?_
            rotate_left
            · intro w' hF; clear hF; go_simp; try rfl
            rotate_left
            · simp only [Act.put]; exact rfl
            refine Calm.done (by kernel_rfl) ?_
            go_wp2
            go_ret
            exact ⟨rfl, HF.out.1⟩
          · have h60' : ¬ (60 : Int) < (E : Int) := by omega
            go_wp2_with fail
            refine wp_calm (fun w' => Below w.heap.size w w' ∧ Box w' go (.bool so) (.slice mo lo ko) ∧ RVar w' (gx + 1) sp mp lp kp z ∧ IntAt w' (.agg #[.bool so, .slice mo lo ko]) (z ^ (2 + E % 2))) (fun _ => true) 10 #[false, false, false, false, false, false, false, false, false, false] (by kernel_rfl) rfl rfl ?_
            have HF := hide (And.intro (HB.out.drew) (And.intro (BO.out.drew) (And.intro (VP.out.drew) (TO.out.drew))))
            generalize t1.drew = t1d at *
            refine Calm.take (i := 0) (v := ?_) (a' := ?_) (l' := #[true, false, false, false, false, false, false, false, false, false]) (d := some 67) rfl (by kernel_rfl) (by kernel_rfl) (by kernel_rfl) (by kernel_rfl) (fun _ _ _ h => h) HF.out rfl ?_ rfl rfl ?_ ?_
            rotate_left
            · intro w' hF; clear hF; go_simp; try rfl
            rotate_left
            · simp only [Act.put]; exact rfl
            refine Calm.take (i := 1) (v := ?_) (a' := ?_) (l' := #[true, true, false, false, false, false, false, false, false, false]) (d := some 68) rfl (by kernel_rfl) (by kernel_rfl) (by kernel_rfl) (by kernel_rfl) (fun _ _ _ h => h) HF.out rfl ?_ rfl rfl ?_ ?_
            rotate_left
            · intro w' hF; clear hF; go_simp; try rfl
            rotate_left
            · simp only [Act.put]; exact rfl
            refine Calm.take (i := 2) (v := ?_) (a' := ?_) (l' := #[true, true, true, false, false, false, false, false, false, false]) (d := some 69) rfl (by kernel_rfl) (by kernel_rfl) (by kernel_rfl) (by kernel_rfl) (fun _ _ _ h => h) HF.out rfl ?_ rfl rfl ?_ ?_
            rotate_left
            · intro w' hF; clear hF; go_simp; try rfl
            rotate_left
            · simp only [Act.put]; exact rfl
            refine Calm.take (i := 3) (v := ?_) (a' := ?_) (l' := #[true, true, true, true, false, false, false, false, false, false]) (d := some 70) rfl (by kernel_rfl) (by kernel_rfl) (by kernel_rfl) (by kernel_rfl) (fun _ _ _ h => h) HF.out (by kernel_rfl) ?_ rfl rfl ?_ ?_
            rotate_left
            · intro w' hF; have f10 := hF.2.1.cell0; have f11 := hF.2.1.cell1; have f20 := hF.2.2.1.box.cell0; have f21 := hF.2.2.1.box.cell1; clear hF; go_simp; try rfl
            rotate_left
            · simp only [Act.put]; exact rfl
            refine Calm.take (i := 4) (v := ?_) (a' := ?_) (l' := #[true, true, true, true, true, false, false, false, false, false]) (d := some 71) rfl (by kernel_rfl) (by kernel_rfl) (by kernel_rfl) (by kernel_rfl) (fun _ _ _ h => h) HF.out (by kernel_rfl) ?_ rfl rfl ?_ ?_
            rotate_left
            · intro w' hF; have f10 := hF.2.1.cell0; have f11 := hF.2.1.cell1; have f20 := hF.2.2.1.box.cell0; have f21 := hF.2.2.1.box.cell1; clear hF; go_simp; try rfl
            rotate_left
            · simp only [Act.put]; exact rfl
            refine Calm.take (i := 5) (v := ?_) (a' := ?_) (l' := #[true, true, true, true, true, true, false, false, false, false]) (d := some 72) rfl (by kernel_rfl) (by kernel_rfl) (by kernel_rfl) (by kernel_rfl) (fun _ _ _ h => h) HF.out (by kernel_rfl) ?_ rfl rfl ?_ ?_
            rotate_left
            · intro w' hF; clear hF; go_simp; try rfl
            rotate_left
            · simp only [Act.put]; exact rfl
            refine Calm.one (i := 6) (l' := #[true, true, true, true, true, true, true, false, false, false]) (by kernel_rfl) rfl (by kernel_rfl) rfl fun K hK => ?_
            go_simp
            rw [show (2 + (E : Int) % 2) = ((2 + E % 2 : Nat) : Int) by omega]
            refine (rpow_any _ z (2 + E % 2) _ HF.out.2.2.1.int (by omega) (fun i hi => pow_dlen SX.out (by omega)) (SzI.dlen SX.out (by decide))).mono ?_
            rintro e t2 ⟨v2, rfl, n2, hb⟩
            have HF' := hide (And.intro (HF.out.1.trans ((hb).mono HF.out.1.size)) (And.intro (HF.out.2.1.step (hb)) (And.intro (HF.out.2.2.1.step (hb)) (HF.out.2.2.2.below (hb)))))
            have TW := hide (n2)
            refine hK _ _ (fun _ => HF'.out) ?_
            clear hK K HF hb n2
            have HF := hide HF'.out
            clear HF'
            refine Calm.one (i := 7) (l' := #[true, true, true, true, true, true, true, true, false, false]) (by kernel_rfl) rfl (by kernel_rfl) rfl fun K hK => ?_
            go_simp
            refine (is_yes _ _ (z ^ (2 + E % 2)) _ HF.out.2.2.2 TW.out (pow_llen SX.out (by omega)) (Nat.le_trans (pow_dlen SX.out (by omega)) (by decide))).mono ?_
            rintro e t3 ⟨rfl, hb⟩
            clear TW
            have HF' := hide (And.intro (HF.out.1.trans ((hb).mono HF.out.1.size)) (And.intro (HF.out.2.1.step (hb)) (And.intro (HF.out.2.2.1.step (hb)) (HF.out.2.2.2.below (hb)))))
            refine hK _ _ (fun _ => HF'.out) ?_
            clear hK K HF hb
            have HF := hide HF'.out
            clear HF'
            refine Calm.take (i := 8) (v := ?_) (a' := ?_) (l' := #[true, true, true, true, true, true, true, true, true, false]) (d := some 75) rfl (by kernel_rfl) (by kernel_rfl) (by kernel_rfl) (by kernel_rfl) (fun _ _ _ h => h) HF.out rfl ?_ rfl rfl ?_ ?_
            rotate_left
            · intro w' hF; clear hF; go_simp; try rfl
            rotate_left
            · simp only [Act.put]; exact rfl
            refine Calm.take (i := 9) (v := ?_) (a' := ?_) (l' := #[true, true, true, true, true, true, true, true, true, true]) (d := some 4) rfl (by kernel_rfl) (by kernel_rfl) (by kernel_rfl) (by kernel_rfl) (fun _ _ _ h => h) HF.out rfl ?_ rfl rfl ?_ ?_
            rotate_left
            · intro w' hF; clear hF; go_simp; try rfl
            rotate_left
            · simp only [Act.put]; exact rfl
            refine Calm.done (by kernel_rfl) ?_
            go_wp2
            go_ret
            exact ⟨rfl, HF.out.1⟩
      · have hE60 : E ≤ 60 := by omega
        have hcc : ¬ ((2 : Int) < (E : Int) ∧ (M : Int) ≤ 1) := by omega
        by_cases hE2 : 2 < E
        · have hM2 : 1 < M := by omega
          have hl3 : ¬ (65536 : Int) / (M : Int) < (E : Int) := by have := quo_cast M; omega
          clear hfit hcc hbig hcyc
          go_wp2_with fail
          refine wp_calm (fun w' => Below w.heap.size w w' ∧ Box w' go (.bool so) (.slice mo lo ko) ∧ RVar w' (gx + 1) sp mp lp kp z ∧ IntAt w' (.agg #[.bool so, .slice mo lo ko]) (z ^ (E))) (fun _ => true) 10 #[false, false, false, false, false, false, false, false, false, false] (by kernel_rfl) rfl rfl ?_
          have HF := hide (And.intro (HB.out.drew) (And.intro (BO.out.drew) (And.intro (VP.out.drew) (TO.out.drew))))
          generalize t1.drew = t1d at *
          refine Calm.take (i := 0) (v := ?_) (a' := ?_) (l' := #[true, false, false, false, false, false, false, false, false, false]) (d := some 67) rfl (by kernel_rfl) (by kernel_rfl) (by kernel_rfl) (by kernel_rfl) (fun _ _ _ h => h) HF.out rfl ?_ rfl rfl ?_ ?_
          rotate_left
          · intro w' hF; clear hF; go_simp; try rfl
          rotate_left
          · simp only [Act.put]; exact rfl
          refine Calm.take (i := 1) (v := ?_) (a' := ?_) (l' := #[true, true, false, false, false, false, false, false, false, false]) (d := some 68) rfl (by kernel_rfl) (by kernel_rfl) (by kernel_rfl) (by kernel_rfl) (fun _ _ _ h => h) HF.out rfl ?_ rfl rfl ?_ ?_
          rotate_left
          · intro w' hF; clear hF; go_simp; try rfl
          rotate_left
          · simp only [Act.put]; exact rfl
          refine Calm.take (i := 2) (v := ?_) (a' := ?_) (l' := #[true, true, true, false, false, false, false, false, false, false]) (d := some 69) rfl (by kernel_rfl) (by kernel_rfl) (by kernel_rfl) (by kernel_rfl) (fun _ _ _ h => h) HF.out rfl ?_ rfl rfl ?_ ?_
          rotate_left
          · intro w' hF; clear hF; go_simp; try rfl
          rotate_left
          · simp only [Act.put]; exact rfl
          refine Calm.take (i := 3) (v := ?_) (a' := ?_) (l' := #[true, true, true, true, false, false, false, false, false, false]) (d := some 70) rfl (by kernel_rfl) (by kernel_rfl) (by kernel_rfl) (by kernel_rfl) (fun _ _ _ h => h) HF.out (by kernel_rfl) ?_ rfl rfl ?_ ?_
          rotate_left
          · intro w' hF; have f10 := hF.2.1.cell0; have f11 := hF.2.1.cell1; have f20 := hF.2.2.1.box.cell0; have f21 := hF.2.2.1.box.cell1; clear hF; go_simp; try rfl
          rotate_left
          · simp only [Act.put]; exact rfl
          refine Calm.take (i := 4) (v := ?_) (a' := ?_) (l' := #[true, true, true, true, true, false, false, false, false, false]) (d := some 71) rfl (by kernel_rfl) (by kernel_rfl) (by kernel_rfl) (by kernel_rfl) (fun _ _ _ h => h) HF.out (by kernel_rfl) ?_ rfl rfl ?_ ?_
          rotate_left
          · intro w' hF; have f10 := hF.2.1.cell0; have f11 := hF.2.1.cell1; have f20 := hF.2.2.1.box.cell0; have f21 := hF.2.2.1.box.cell1; clear hF; go_simp; try rfl
          rotate_left
          · simp only [Act.put]; exact rfl
          refine Calm.take (i := 5) (v := ?_) (a' := ?_) (l' := #[true, true, true, true, true, true, false, false, false, false]) (d := some 72) rfl (by kernel_rfl) (by kernel_rfl) (by kernel_rfl) (by kernel_rfl) (fun _ _ _ h => h) HF.out (by kernel_rfl) ?_ rfl rfl ?_ ?_
          rotate_left
          · intro w' hF; clear hF; go_simp; try rfl
          rotate_left
          · simp only [Act.put]; exact rfl
          refine Calm.one (i := 6) (l' := #[true, true, true, true, true, true, true, false, false, false]) (by kernel_rfl) rfl (by kernel_rfl) rfl fun K hK => ?_
          go_simp
          refine (rpow_any _ z (E) _ HF.out.2.2.1.int (by omega) (fun i hi => pow_dlen SX.out (by omega)) (SzI.dlen SX.out (by decide))).mono ?_
          rintro e t2 ⟨v2, rfl, n2, hb⟩
          have HF' := hide (And.intro (HF.out.1.trans ((hb).mono HF.out.1.size)) (And.intro (HF.out.2.1.step (hb)) (And.intro (HF.out.2.2.1.step (hb)) (HF.out.2.2.2.below (hb)))))
          have TW := hide (n2)
          refine hK _ _ (fun _ => HF'.out) ?_
          clear hK K HF hb n2
          have HF := hide HF'.out
          clear HF'
          refine Calm.one (i := 7) (l' := #[true, true, true, true, true, true, true, true, false, false]) (by kernel_rfl) rfl (by kernel_rfl) rfl fun K hK => ?_
          go_simp
          refine (is_yes _ _ (z ^ (E)) _ HF.out.2.2.2 TW.out (pow_llen SX.out (by omega)) (Nat.le_trans (pow_dlen SX.out (by omega)) (by decide))).mono ?_
          rintro e t3 ⟨rfl, hb⟩
          clear TW
          have HF' := hide (And.intro (HF.out.1.trans ((hb).mono HF.out.1.size)) (And.intro (HF.out.2.1.step (hb)) (And.intro (HF.out.2.2.1.step (hb)) (HF.out.2.2.2.below (hb)))))
          refine hK _ _ (fun _ => HF'.out) ?_
          clear hK K HF hb
          have HF := hide HF'.out
          clear HF'
          refine Calm.take (i := 8) (v := ?_) (a' := ?_) (l' := #[true, true, true, true, true, true, true, true, true, false]) (d := some 75) rfl (by kernel_rfl) (by kernel_rfl) (by kernel_rfl) (by kernel_rfl) (fun _ _ _ h => h) HF.out rfl ?_ rfl rfl ?_ ?_
          rotate_left
          · intro w' hF; clear hF; go_simp; try rfl
          rotate_left
          · simp only [Act.put]; exact rfl
          refine Calm.take (i := 9) (v := ?_) (a' := ?_) (l' := #[true, true, true, true, true, true, true, true, true, true]) (d := some 4) rfl (by kernel_rfl) (by kernel_rfl) (by kernel_rfl) (by kernel_rfl) (fun _ _ _ h => h) HF.out rfl ?_ rfl rfl ?_ ?_
          rotate_left
          · intro w' hF; clear hF; go_simp; try rfl
          rotate_left
          · simp only [Act.put]; exact rfl
          refine Calm.done (by kernel_rfl) ?_
          go_wp2
          go_ret
          exact ⟨rfl, HF.out.1⟩
        · clear hcc hbig hcyc
          by_cases hM0 : M = 0
          · subst hM0
            clear hfit
            go_wp2_with fail
            refine wp_calm (fun w' => Below w.heap.size w w' ∧ Box w' go (.bool so) (.slice mo lo ko) ∧ RVar w' (gx + 1) sp mp lp kp z ∧ IntAt w' (.agg #[.bool so, .slice mo lo ko]) (z ^ (E))) (fun _ => true) 10 #[false, false, false, false, false, false, false, false, false, false] (by kernel_rfl) rfl rfl ?_
            have HF := hide (And.intro (HB.out.drew) (And.intro (BO.out.drew) (And.intro (VP.out.drew) (TO.out.drew))))
            generalize t1.drew = t1d at *
            refine Calm.take (i := 0) (v := ?_) (a' := ?_) (l' := #[true, false, false, false, false, false, false, false, false, false]) (d := some 67) rfl (by kernel_rfl) (by kernel_rfl) (by kernel_rfl) (by kernel_rfl) (fun _ _ _ h => h) HF.out rfl ?_ rfl rfl ?_ ?_
            rotate_left
            · intro w' hF; clear hF; go_simp; try rfl
            rotate_left
            · simp only [Act.put]; exact rfl
            refine Calm.take (i := 1) (v := ?_) (a' := ?_) (l' := #[true, true, false, false, false, false, false, false, false, false]) (d := some 68) rfl (by kernel_rfl) (by kernel_rfl) (by kernel_rfl) (by kernel_rfl) (fun _ _ _ h => h) HF.out rfl ?_ rfl rfl ?_ ?_
            rotate_left
            · intro w' hF; clear hF; go_simp; try rfl
            rotate_left
            · simp only [Act.put]; exact rfl
            refine Calm.take (i := 2) (v := ?_) (a' := ?_) (l' := #[true, true, true, false, false, false, false, false, false, false]) (d := some 69) rfl (by kernel_rfl) (by kernel_rfl) (by kernel_rfl) (by kernel_rfl) (fun _ _ _ h => h) HF.out rfl ?_ rfl rfl ?_ ?_
            rotate_left
            · intro w' hF; clear hF; go_simp; try rfl
            rotate_left
            · simp only [Act.put]; exact rfl
            refine Calm.take (i := 3) (v := ?_) (a' := ?_) (l' := #[true, true, true, true, false, false, false, false, false, false]) (d := some 70) rfl (by kernel_rfl) (by kernel_rfl) (by kernel_rfl) (by kernel_rfl) (fun _ _ _ h => h) HF.out (by kernel_rfl) ?_ rfl rfl ?_ ?_
            rotate_left
            · intro w' hF; have f10 := hF.2.1.cell0; have f11 := hF.2.1.cell1; have f20 := hF.2.2.1.box.cell0; have f21 := hF.2.2.1.box.cell1; clear hF; go_simp; try rfl
            rotate_left
            · simp only [Act.put]; exact rfl
            refine Calm.take (i := 4) (v := ?_) (a' := ?_) (l' := #[true, true, true, true, true, false, false, false, false, false]) (d := some 71) rfl (by kernel_rfl) (by kernel_rfl) (by kernel_rfl) (by kernel_rfl) (fun _ _ _ h => h) HF.out (by kernel_rfl) ?_ rfl rfl ?_ ?_
            rotate_left
            · intro w' hF; have f10 := hF.2.1.cell0; have f11 := hF.2.1.cell1; have f20 := hF.2.2.1.box.cell0; have f21 := hF.2.2.1.box.cell1; clear hF; go_simp; try rfl
            rotate_left
            · simp only [Act.put]; exact rfl
            refine Calm.take (i := 5) (v := ?_) (a' := ?_) (l' := #[true, true, true, true, true, true, false, false, false, false]) (d := some 72) rfl (by kernel_rfl) (by kernel_rfl) (by kernel_rfl) (by kernel_rfl) (fun _ _ _ h => h) HF.out (by kernel_rfl) ?_ rfl rfl ?_ ?_
            rotate_left
            · intro w' hF; clear hF; go_simp; try rfl
            rotate_left
            · simp only [Act.put]; exact rfl
            refine Calm.one (i := 6) (l' := #[true, true, true, true, true, true, true, false, false, false]) (by kernel_rfl) rfl (by kernel_rfl) rfl fun K hK => ?_
            go_simp
            refine (rpow_any _ z (E) _ HF.out.2.2.1.int (by omega) (fun i hi => pow_dlen SX.out (by omega)) (SzI.dlen SX.out (by decide))).mono ?_
            rintro e t2 ⟨v2, rfl, n2, hb⟩
            have HF' := hide (And.intro (HF.out.1.trans ((hb).mono HF.out.1.size)) (And.intro (HF.out.2.1.step (hb)) (And.intro (HF.out.2.2.1.step (hb)) (HF.out.2.2.2.below (hb)))))
            have TW := hide (n2)
            refine hK _ _ (fun _ => HF'.out) ?_
            clear hK K HF hb n2
            have HF := hide HF'.out
            clear HF'
            refine Calm.one (i := 7) (l' := #[true, true, true, true, true, true, true, true, false, false]) (by kernel_rfl) rfl (by kernel_rfl) rfl fun K hK => ?_
            go_simp
            refine (is_yes _ _ (z ^ (E)) _ HF.out.2.2.2 TW.out (pow_llen SX.out (by omega)) (Nat.le_trans (pow_dlen SX.out (by omega)) (by decide))).mono ?_
            rintro e t3 ⟨rfl, hb⟩
            clear TW
            have HF' := hide (And.intro (HF.out.1.trans ((hb).mono HF.out.1.size)) (And.intro (HF.out.2.1.step (hb)) (And.intro (HF.out.2.2.1.step (hb)) (HF.out.2.2.2.below (hb)))))
            refine hK _ _ (fun _ => HF'.out) ?_
            clear hK K HF hb
            have HF := hide HF'.out
            clear HF'
            refine Calm.take (i := 8) (v := ?_) (a' := ?_) (l' := #[true, true, true, true, true, true, true, true, true, false]) (d := some 75) rfl (by kernel_rfl) (by kernel_rfl) (by kernel_rfl) (by kernel_rfl) (fun _ _ _ h => h) HF.out rfl ?_ rfl rfl ?_ ?_
            rotate_left
            · intro w' hF; clear hF; go_simp; try rfl
            rotate_left
            · simp only [Act.put]; exact rfl
            refine Calm.take (i := 9) (v := ?_) (a' := ?_) (l' := #[true, true, true, true, true, true, true, true, true, true]) (d := some 4) rfl (by kernel_rfl) (by kernel_rfl) (by kernel_rfl) (by kernel_rfl) (fun _ _ _ h => h) HF.out rfl ?_ rfl rfl ?_ ?_
            rotate_left
            · intro w' hF; clear hF; go_simp; try rfl
            rotate_left
            · simp only [Act.put]; exact rfl
            refine Calm.done (by kernel_rfl) ?_
            go_wp2
            go_ret
            exact ⟨rfl, HF.out.1⟩
          · have hM1 : 0 < M := by omega
            have hl3 : ¬ (65536 : Int) / (M : Int) < (E : Int) := by have := quo_cast M; omega
            clear hfit hM0
            go_wp2_with fail
            refine wp_calm (fun w' => Below w.heap.size w w' ∧ Box w' go (.bool so) (.slice mo lo ko) ∧ RVar w' (gx + 1) sp mp lp kp z ∧ IntAt w' (.agg #[.bool so, .slice mo lo ko]) (z ^ (E))) (fun _ => true) 10 #[false, false, false, false, false, false, false, false, false, false] (by kernel_rfl) rfl rfl ?_
            have HF := hide (And.intro (HB.out.drew) (And.intro (BO.out.drew) (And.intro (VP.out.drew) (TO.out.drew))))
            generalize t1.drew = t1d at *
            refine Calm.take (i := 0) (v := ?_) (a' := ?_) (l' := #[true, false, false, false, false, false, false, false, false, false]) (d := some 67) rfl (by kernel_rfl) (by kernel_rfl) (by kernel_rfl) (by kernel_rfl) (fun _ _ _ h => h) HF.out rfl ?_ rfl rfl ?_ ?_
            rotate_left
            · intro w' hF; clear hF; go_simp; try rfl
            rotate_left
            · simp only [Act.put]; exact rfl
            refine Calm.take (i := 1) (v := ?_) (a' := ?_) (l' := #[true, true, false, false, false, false, false, false, false, false]) (d := some 68) rfl (by kernel_rfl) (by kernel_rfl) (by kernel_rfl) (by kernel_rfl) (fun _ _ _ h => h) HF.out rfl ?_ rfl rfl ?_ ?_
            rotate_left
            · intro w' hF; clear hF; go_simp; try rfl
            rotate_left
            · simp only [Act.put]; exact rfl
            refine Calm.take (i := 2) (v := ?_) (a' := ?_) (l' := #[true, true, true, false, false, false, false, false, false, false]) (d := some 69) rfl (by kernel_rfl) (by kernel_rfl) (by kernel_rfl) (by kernel_rfl) (fun _ _ _ h => h) HF.out rfl ?_ rfl rfl ?_ ?_
            rotate_left
            · intro w' hF; clear hF; go_simp; try rfl
            rotate_left
            · simp only [Act.put]; exact rfl
            refine Calm.take (i := 3) (v := ?_) (a' := ?_) (l' := #[true, true, true, true, false, false, false, false, false, false]) (d := some 70) rfl (by kernel_rfl) (by kernel_rfl) (by kernel_rfl) (by kernel_rfl) (fun _ _ _ h => h) HF.out (by kernel_rfl) ?_ rfl rfl ?_ ?_
            rotate_left
            · intro w' hF; have f10 := hF.2.1.cell0; have f11 := hF.2.1.cell1; have f20 := hF.2.2.1.box.cell0; have f21 := hF.2.2.1.box.cell1; clear hF; go_simp; try rfl
            rotate_left
            · simp only [Act.put]; exact rfl
            refine Calm.take (i := 4) (v := ?_) (a' := ?_) (l' := #[true, true, true, true, true, false, false, false, false, false]) (d := some 71) rfl (by kernel_rfl) (by kernel_rfl) (by kernel_rfl) (by kernel_rfl) (fun _ _ _ h => h) HF.out (by kernel_rfl) ?_ rfl rfl ?_ ?_
            rotate_left
            · intro w' hF; have f10 := hF.2.1.cell0; have f11 := hF.2.1.cell1; have f20 := hF.2.2.1.box.cell0; have f21 := hF.2.2.1.box.cell1; clear hF; go_simp; try rfl
            rotate_left
            · simp only [Act.put]; exact rfl
            refine Calm.take (i := 5) (v := ?_) (a' := ?_) (l' := #[true, true, true, true, true, true, false, false, false, false]) (d := some 72) rfl (by kernel_rfl) (by kernel_rfl) (by kernel_rfl) (by kernel_rfl) (fun _ _ _ h => h) HF.out (by kernel_rfl) ?_ rfl rfl ?_ ?_
            rotate_left
            · intro w' hF; clear hF; go_simp; try rfl
            rotate_left
            · simp only [Act.put]; exact rfl
            refine Calm.one (i := 6) (l' := #[true, true, true, true, true, true, true, false, false, false]) (by kernel_rfl) rfl (by kernel_rfl) rfl fun K hK => ?_
            go_simp
            refine (rpow_any _ z (E) _ HF.out.2.2.1.int (by omega) (fun i hi => pow_dlen SX.out (by omega)) (SzI.dlen SX.out (by decide))).mono ?_
            rintro e t2 ⟨v2, rfl, n2, hb⟩
            have HF' := hide (And.intro (HF.out.1.trans ((hb).mono HF.out.1.size)) (And.intro (HF.out.2.1.step (hb)) (And.intro (HF.out.2.2.1.step (hb)) (HF.out.2.2.2.below (hb)))))
            have TW := hide (n2)
            refine hK _ _ (fun _ => HF'.out) ?_
            clear hK K HF hb n2
            have HF := hide HF'.out
            clear HF'
            refine Calm.one (i := 7) (l' := #[true, true, true, true, true, true, true, true, false, false]) (by kernel_rfl) rfl (by kernel_rfl) rfl fun K hK => ?_
            go_simp
            refine (is_yes _ _ (z ^ (E)) _ HF.out.2.2.2 TW.out (pow_llen SX.out (by omega)) (Nat.le_trans (pow_dlen SX.out (by omega)) (by decide))).mono ?_
            rintro e t3 ⟨rfl, hb⟩
            clear TW
            have HF' := hide (And.intro (HF.out.1.trans ((hb).mono HF.out.1.size)) (And.intro (HF.out.2.1.step (hb)) (And.intro (HF.out.2.2.1.step (hb)) (HF.out.2.2.2.below (hb)))))
            refine hK _ _ (fun _ => HF'.out) ?_
            clear hK K HF hb
            have HF := hide HF'.out
            clear HF'
            refine Calm.take (i := 8) (v := ?_) (a' := ?_) (l' := #[true, true, true, true, true, true, true, true, true, false]) (d := some 75) rfl (by kernel_rfl) (by kernel_rfl) (by kernel_rfl) (by kernel_rfl) (fun _ _ _ h => h) HF.out rfl ?_ rfl rfl ?_ ?_
            rotate_left
            · intro w' hF; clear hF; go_simp; try rfl
            rotate_left
            · simp only [Act.put]; exact rfl
            refine Calm.take (i := 9) (v := ?_) (a' := ?_) (l' := #[true, true, true, true, true, true, true, true, true, true]) (d := some 4) rfl (by kernel_rfl) (by kernel_rfl) (by kernel_rfl) (by kernel_rfl) (fun _ _ _ h => h) HF.out rfl ?_ rfl rfl ?_ ?_
            rotate_left
            · intro w' hF; clear hF; go_simp; try rfl
            rotate_left
            · simp only [Act.put]; exact rfl
            refine Calm.done (by kernel_rfl) ?_
            go_wp2
            go_ret
            exact ⟨rfl, HF.out.1⟩
end Go.Proofs.Ythlkfiocmahmoaa
