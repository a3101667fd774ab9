/- swagelaw06.PointPowers answers true at all points and numbers, and turns nothing that was there. -/
import Derived.Test.YtlockdhhidghdabPtRPow
import Derived.Test.YtlockdhhidghdabCalm3
namespace Go.Proofs.Ytlockdhhidghdab
open Go.RowKit

theorem powf_scale (a b c : Int) (n j : Nat) (hj : j < n) : powf (a * c) (b * c) n j = powf a b n j * c ^ (n - 1) := by
  unfold powf
  rw [Int.mul_pow, Int.mul_pow]
  have e : c ^ (n - 1) = c ^ j * c ^ (n - 1 - j) := by rw [← ipow_add]; congr 1; omega
  rw [e]
  grind
theorem powl_getD (a b : Int) (n j : Nat) (hj : j < n) : ((List.range n).map (powf a b n)).getD j 0 = powf a b n j := by simp [hj]
theorem powl_len (a b : Int) (n : Nat) : ((List.range n).map (powf a b n)).length = n := by simp

set_option maxRecDepth 100000 in
set_option maxHeartbeats 8000000 in
theorem ppow_walk (a b n c : Int) (w : World) (wn : -9223372036854775808 ≤ n ∧ n ≤ 9223372036854775807) :
    Calls Try.prog 6 #[.agg #[.int .i64 a, .int .i64 b], .int .i64 n, .int .i64 c] w fun e w' => e = .returned (.bool true) ∧ Below w.heap.size w w' := by
  have HX := hide (Box2.new w 72 (.int .i64 a) (.int .i64 b))
  have HB := hide (below_alloc w (.cells #[.int .i64 a, .int .i64 b] 72))
  go_enter Try.func6, Try.ntmps6
  go_wp2_with fail
  generalize w.alloc (.cells #[.int .i64 a, .int .i64 b] 72) = w0 at *
  refine (live_any _).mono ?_
  rintro e w1 ⟨rfl, hb⟩
  replace HB := hide (HB.out.trans ((hb).mono HB.out.size))
  replace HX := hide (HX.out.step (hb))
  clear hb
  by_cases hgood : inB a b = true ∧ 0 ≤ n ∧ n ≤ 16
  · obtain ⟨hin, hn0, hn1⟩ := hgood
    obtain ⟨N, rfl⟩ : ∃ N : Nat, n = N := ⟨n.toNat, by omega⟩
    have HIN := hide hin
    have HN : N ≤ 16 := by omega
    clear hin hn0 hn1 wn
    have HX0 := HX.out.cell0
    have HX1 := HX.out.cell1
    go_wp2_with fail
    refine (powers_in a b N _ HIN.out HN).mono ?_
    rintro e w2 ⟨g, rfl, hr, hb⟩
    clear HX0 HX1
    replace HB := hide (HB.out.trans ((hb).mono HB.out.size))
    replace HX := hide (HX.out.step (hb))
    clear hb
    have L1 := hide (hr.ints (by rw [powl_len]; unfold maxLen; omega))
    clear hr
    rw [powl_len] at L1
    have HX0 := HX.out.cell0
    have HX1 := HX.out.cell1
    go_wp2_with fail
    refine (rin_any a b _).mono ?_
    rintro e w3 ⟨rfl, hb⟩
    rw [HIN.out]
    clear HX0 HX1
    replace HB := hide (HB.out.trans ((hb).mono HB.out.size))
    replace HX := hide (HX.out.step (hb))
    replace L1 := hide (L1.out.below (hb))
    clear hb
    have HX0 := HX.out.cell0
    have HX1 := HX.out.cell1
    go_wp2_with fail
    refine (rpowers_any a b N _ HIN.out HN).mono ?_
    rintro e w4 ⟨v, rfl, hr, hb⟩
    have LQ := hide hr
    clear hr
    clear HX0 HX1
    replace HB := hide (HB.out.trans ((hb).mono HB.out.size))
    replace HX := hide (HX.out.step (hb))
    replace L1 := hide (L1.out.below (hb))
    clear hb
    obtain ⟨av, cv, rfl, hvl, hvm⟩ : ∃ av cv, v = .slice av N cv ∧ N ≤ cv ∧ cv ≤ maxLen := by
      obtain ⟨av, cv, h1, h2, h3, _⟩ := LQ.out
      rw [powl_len] at h1 h2
      exact ⟨av, cv, h1, h2, h3⟩
    unfold maxLen at hvm
    go_wp2
    go_loopw [10] (fun iv wr => ∃ k : Nat, k ≤ N ∧ iv = .int .i64 k ∧ Box2 wr w.heap.size 72 (.int .i64 a) (.int .i64 b) ∧ Ints wr (.slice (some ⟨g, 0, none⟩) N N) ((List.range N).map (powf a b N)) ∧ RInts wr (.slice av N cv) ((List.range N).map (powf a b N)) ∧ Below w.heap.size w wr) (fun iv _ => N - (intOf iv).toNat)
    case atStart => exact ⟨0, Nat.zero_le _, rfl, HX.out, L1.out, LQ.out, HB.out⟩
    case round =>
    clear HX L1 LQ HB
    obtain ⟨k, hk, rfl, hx, h1, h2, hbel⟩ := hrel
    have HX := hide hx
    have L1 := hide h1
    have LQ := hide h2
    have HB := hide hbel
    clear hx h1 h2 hbel
    by_cases hlt : k < N
    · skip
      obtain ⟨b1, off1, e1, s, m, l, c1, k1, k2, k3⟩ := L1.out.at (i := k) (by rw [powl_len]; exact hlt)
      obtain ⟨rfl, rfl⟩ : g = b1 ∧ 0 = off1 := by simpa using e1
      clear e1
      obtain ⟨b2, off2, rfl, s2, m2, l2, c2, q1, q2, q3⟩ := LQ.out.at (i := k) (by rw [powl_len]; exact hlt)
      rw [powl_getD _ _ _ _ hlt] at k3 q3
      rw [Nat.zero_add] at k1 k2
      have K1 := hide k1
      have K2 := hide k2
      have Q1 := hide q1
      have Q2 := hide q2
      have I1 := hide k3
      have I2 := hide q3
      clear k1 k2 k3 q1 q2 q3
      have LK := hide (SzI.len (powf_sz (a := a) (b := b) (by have := in_yes HIN.out; omega) (by have := in_yes HIN.out; omega) HN hlt) (by decide))
      generalize powf a b N k = z at *
      go_upto_region 12 with fail
      refine wp_calm (fun w' => Below w.heap.size w w' ∧ Box2 w' w.heap.size 72 (.int .i64 a) (.int .i64 b) ∧ CellAt w' ⟨g, k * 2, none⟩ (.bool s) ∧ CellAt w' ⟨g, k * 2 + 1, none⟩ (.slice m l c1) ∧ CellAt w' ⟨b2, off2 + k * 2, none⟩ (.bool s2) ∧ CellAt w' ⟨b2, off2 + k * 2 + 1, none⟩ (.slice m2 l2 c2) ∧ IntAt w' (.agg #[.bool s, .slice m l c1]) z ∧ RInt w' (.agg #[.bool s2, .slice m2 l2 c2]) z ∧ Ints w' (.slice (some ⟨g, 0, none⟩) N N) ((List.range N).map (powf a b N)) ∧ RInts w' (.slice (some ⟨b2, off2, none⟩) N cv) ((List.range N).map (powf a b N))) (fun _ => true) 10 #[false, false, false, false, false, false, false, false, false, false] (by kernel_rfl) rfl rfl ?_
      have HF := hide (And.intro (HB.out.drew) (And.intro (HX.out.drew) (And.intro (K1.out.drew) (And.intro (K2.out.drew) (And.intro (Q1.out.drew) (And.intro (Q2.out.drew) (And.intro (I1.out.drew) (And.intro (I2.out.drew) (And.intro ((L1.out.below (Below.refl _ _).drew)) ((LQ.out.below (Below.refl _ _).drew)))))))))))
      generalize wr.drew = wrd at *
      refine Calm.take (i := 0) (v := ?_) (a' := ?_) (l' := #[true, false, false, false, false, false, false, false, false, false]) (d := some 61) rfl (by kernel_rfl) (by kernel_rfl) (by kernel_rfl) (by kernel_rfl) (fun _ _ _ h => h) HF.out rfl ?_ rfl rfl ?_ ?_
      rotate_left
      · intro w' hF; clear hF; go_simp; try rfl
      rotate_left
      · simp only [Act.put]; exact rfl
      refine Calm.take (i := 1) (v := ?_) (a' := ?_) (l' := #[true, true, false, false, false, false, false, false, false, false]) (d := some 62) rfl (by kernel_rfl) (by kernel_rfl) (by kernel_rfl) (by kernel_rfl) (fun _ _ _ h => h) HF.out rfl ?_ rfl rfl ?_ ?_
      rotate_left
      · intro w' hF; clear hF; go_simp; try rfl
      rotate_left
      · simp only [Act.put]; exact rfl
      refine Calm.take (i := 2) (v := ?_) (a' := ?_) (l' := #[true, true, true, false, false, false, false, false, false, false]) (d := some 63) rfl (by kernel_rfl) (by kernel_rfl) (by kernel_rfl) (by kernel_rfl) (fun _ _ _ h => h) HF.out rfl ?_ rfl rfl ?_ ?_
      rotate_left
      · intro w' hF; clear hF; go_simp; try rfl
      rotate_left
      · simp only [Act.put]; exact rfl
      refine Calm.take (i := 3) (v := ?_) (a' := ?_) (l' := #[true, true, true, true, false, false, false, false, false, false]) (d := some 64) rfl (by kernel_rfl) (by kernel_rfl) (by kernel_rfl) (by kernel_rfl) (fun _ _ _ h => h) HF.out rfl ?_ rfl rfl ?_ ?_
      rotate_left
      · intro w' hF; have f10 := hF.2.1.cell0; have f11 := hF.2.1.cell1; have f20 := hF.2.2.1.out; have f30 := hF.2.2.2.1.out; have f40 := hF.2.2.2.2.1.out; have f50 := hF.2.2.2.2.2.1.out; clear hF; go_simp; try rfl
      rotate_left
      · simp only [Act.put]; exact rfl
      refine Calm.take (i := 4) (v := ?_) (a' := ?_) (l' := #[true, true, true, true, true, false, false, false, false, false]) (d := some 65) rfl (by kernel_rfl) (by kernel_rfl) (by kernel_rfl) (by kernel_rfl) (fun _ _ _ h => h) HF.out rfl ?_ rfl rfl ?_ ?_
      rotate_left
      · intro w' hF; clear hF; go_simp; try rfl
      rotate_left
      · simp only [Act.put]; exact rfl
      refine Calm.take (i := 5) (v := ?_) (a' := ?_) (l' := #[true, true, true, true, true, true, false, false, false, false]) (d := some 66) rfl (by kernel_rfl) (by kernel_rfl) (by kernel_rfl) (by kernel_rfl) (fun _ _ _ h => h) HF.out rfl ?_ rfl rfl ?_ ?_
      rotate_left
      · intro w' hF; clear hF; go_simp; try rfl
      rotate_left
      · simp only [Act.put]; exact rfl
      refine Calm.take (i := 6) (v := ?_) (a' := ?_) (l' := #[true, true, true, true, true, true, true, false, false, false]) (d := some 67) rfl (by kernel_rfl) (by kernel_rfl) (by kernel_rfl) (by kernel_rfl) (fun _ _ _ h => h) HF.out rfl ?_ rfl rfl ?_ ?_
      rotate_left
      · intro w' hF; clear hF; go_simp; try rfl
      rotate_left
      · simp only [Act.put]; exact rfl
      refine Calm.take (i := 7) (v := ?_) (a' := ?_) (l' := #[true, true, true, true, true, true, true, true, false, false]) (d := some 68) rfl (by kernel_rfl) (by kernel_rfl) (by kernel_rfl) (by kernel_rfl) (fun _ _ _ h => h) HF.out rfl ?_ rfl rfl ?_ ?_
      rotate_left
      · intro w' hF; have f10 := hF.2.1.cell0; have f11 := hF.2.1.cell1; have f20 := hF.2.2.1.out; have f30 := hF.2.2.2.1.out; have f40 := hF.2.2.2.2.1.out; have f50 := hF.2.2.2.2.2.1.out; clear hF; go_simp; try rfl
      rotate_left
      · simp only [Act.put]; exact rfl
      refine Calm.one (i := 8) (l' := #[true, true, true, true, true, true, true, true, true, false]) (by kernel_rfl) rfl rfl rfl fun K hK => ?_
      go_simp
      refine (is6_yes _ _ z _ HF.out.2.2.2.2.2.2.1 HF.out.2.2.2.2.2.2.2.1 LK.out).mono ?_
      rintro e x1 ⟨rfl, hb⟩
      have HF' := hide (And.intro (HF.out.1.trans ((hb).mono HF.out.1.size)) (And.intro (HF.out.2.1.step (hb)) (And.intro (HF.out.2.2.1.step (hb)) (And.intro (HF.out.2.2.2.1.step (hb)) (And.intro (HF.out.2.2.2.2.1.step (hb)) (And.intro (HF.out.2.2.2.2.2.1.step (hb)) (And.intro (HF.out.2.2.2.2.2.2.1.below (hb)) (And.intro (HF.out.2.2.2.2.2.2.2.1.below (hb)) (And.intro (HF.out.2.2.2.2.2.2.2.2.1.below (hb)) (HF.out.2.2.2.2.2.2.2.2.2.below (hb)))))))))))
      refine hK _ _ (fun _ => HF'.out) ?_
      clear hK K HF hb
      have HF := hide HF'.out
      clear HF'
      refine Calm.take (i := 9) (v := ?_) (a' := ?_) (l' := #[true, true, true, true, true, true, true, true, true, true]) (d := some 70) rfl (by kernel_rfl) (by kernel_rfl) (by kernel_rfl) (by kernel_rfl) (fun _ _ _ h => h) HF.out rfl ?_ rfl rfl ?_ ?_
      rotate_left
      · intro w' hF; clear hF; go_simp; try rfl
      rotate_left
      · simp only [Act.put]; exact rfl
      refine Calm.done (by kernel_rfl) ?_
      replace HB := hide HF.out.1
      replace HX := hide HF.out.2.1
      replace L1 := hide HF.out.2.2.2.2.2.2.2.2.1
      replace LQ := hide HF.out.2.2.2.2.2.2.2.2.2
      clear HF K1 K2 Q1 Q2 I1 I2
      go_wp2
      go_roundw
      case rel => exact ⟨k + 1, by omega, by go_num, HX.out, L1.out, LQ.out, HB.out⟩
      case measure => simp [intOf]; omega
    · skip
      clear LQ hvl hvm
      have hc1 : -16 ≤ c.tmod 17 ∧ c.tmod 17 ≤ 16 := by
        have h : (c.tmod 17).natAbs < 17 := by rw [Int.natAbs_tmod]; exact Nat.mod_lt _ (by decide)
        omega
      obtain ⟨ct, hct⟩ : ∃ ct, ct = c.tmod 17 := ⟨_, rfl⟩
      have HCT := hide hct
      rw [← hct] at hc1
      have hma : -256 ≤ a * ct ∧ a * ct ≤ 256 := by
        have h : (a * ct).natAbs ≤ 16 * 16 := by rw [Int.natAbs_mul]; exact Nat.mul_le_mul (by have := in_yes HIN.out; omega) (by omega)
        omega
      have hmb : -256 ≤ b * ct ∧ b * ct ≤ 256 := by
        have h : (b * ct).natAbs ≤ 16 * 16 := by rw [Int.natAbs_mul]; exact Nat.mul_le_mul (by have := in_yes HIN.out; omega) (by omega)
        omega
      have hct' : c.tmod 17 = ct := hct.symm
      clear hct
      have HX0 := HX.out.cell0
      have HX1 := HX.out.cell1
      go_upto_region 15 with fail
      clear HX0 HX1
      have hb := below_alloc wr (.cells #[.int .i64 (a * ct), .int .i64 (b * ct)] 72)
      replace HB := hide (HB.out.trans ((hb).mono HB.out.size))
      replace HX := hide (HX.out.step (hb))
      replace L1 := hide (L1.out.below (hb))
      clear hb
      have QX := hide (Box2.new wr 72 (.int .i64 (a * ct)) (.int .i64 (b * ct)))
      generalize wr.alloc (.cells #[.int .i64 (a * ct), .int .i64 (b * ct)] 72) = w5 at *
      generalize wr.heap.size = gq at *
      have QX0 := QX.out.cell0
      have QX1 := QX.out.cell1
      go_wp2_with fail
      refine (rin_any (a * ct) (b * ct) _).mono ?_
      rintro e w6 ⟨rfl, hb⟩
      clear QX0 QX1
      replace HB := hide (HB.out.trans ((hb).mono HB.out.size))
      replace HX := hide (HX.out.step (hb))
      replace L1 := hide (L1.out.below (hb))
      replace QX := hide (QX.out.step (hb))
      clear hb
      cases hq : inB (a * ct) (b * ct) with
      | false =>
        go_wp2
        go_ret
        exact ⟨rfl, HB.out⟩
      | true =>
      by_cases hN : N < 1
      · go_wp2
        go_ret
        exact ⟨rfl, HB.out⟩
      have HQ := hide hq
      clear hq
      have QX0 := QX.out.cell0
      have QX1 := QX.out.cell1
      go_wp2_with fail
      refine (powers_in (a * ct) (b * ct) N _ HQ.out HN).mono ?_
      rintro e w7 ⟨g2, rfl, hr, hb⟩
      have L2 := hide (hr.ints (by rw [powl_len]; unfold maxLen; omega))
      clear hr
      rw [powl_len] at L2
      clear QX0 QX1
      replace HB := hide (HB.out.trans ((hb).mono HB.out.size))
      replace HX := hide (HX.out.step (hb))
      replace L1 := hide (L1.out.below (hb))
      replace QX := hide (QX.out.step (hb))
      clear hb
      go_wp2_with fail
      refine (iof_any ct _ (by omega) (by omega)).mono ?_
      rintro e w8 ⟨v8, rfl, i8, hb⟩
      have I8 := hide i8
      clear i8
      replace HB := hide (HB.out.trans ((hb).mono HB.out.size))
      replace HX := hide (HX.out.step (hb))
      replace L1 := hide (L1.out.below (hb))
      replace QX := hide (QX.out.step (hb))
      replace L2 := hide (L2.out.below (hb))
      clear hb
      have LX : Hid ((lim ct.natAbs).length ≤ 1) := hide (lim_length_le (by unfold BB; omega))
      go_wp2_with fail
      refine (ipow_any _ ct _ _ I8.out (by have := LX.out; omega) (by omega) (by omega)).mono ?_
      rintro e w9 ⟨v9, z, er, L, rfl, iz, hL, hL2, hp, hb⟩
      obtain ⟨rfl, rfl⟩ : z = ct ^ (N - 1) ∧ er = 0 := by
        have hLL : L ≤ 32 := by have := LX.out; omega
        rcases hp with ⟨h, _⟩ | ⟨_, h3, h4, _⟩ | ⟨_, _, h5, h6⟩
        · omega
        · have : 2048 ≤ 65536 / L := (Nat.le_div_iff_mul_le h3).2 (by omega)
          omega
        · exact ⟨by rw [h5]; congr 1; omega, h6⟩
      obtain ⟨sk, mk, lk, ck, rfl, iz⟩ := iz.cells
      have IK := hide iz
      clear iz hL hL2 hp I8
      replace HB := hide (HB.out.trans ((hb).mono HB.out.size))
      replace HX := hide (HX.out.step (hb))
      replace L1 := hide (L1.out.below (hb))
      replace QX := hide (QX.out.step (hb))
      replace L2 := hide (L2.out.below (hb))
      clear hb
      go_upto_region 19 with fail
      have hb := below_alloc w9 (.cells #[.bool sk, .slice mk lk ck] 31)
      replace HB := hide (HB.out.trans ((hb).mono HB.out.size))
      replace HX := hide (HX.out.step (hb))
      replace L1 := hide (L1.out.below (hb))
      replace QX := hide (QX.out.step (hb))
      replace L2 := hide (L2.out.below (hb))
      replace IK := hide (IK.out.below (hb))
      clear hb
      have KX := hide (Box.new w9 (.bool sk) (.slice mk lk ck))
      generalize w9.alloc (.cells #[.bool sk, .slice mk lk ck] 31) = wa at *
      generalize w9.heap.size = gk at *
      clear HX QX
      go_wp2
      go_loopw [15] (fun iv wr => ∃ k : Nat, k ≤ N ∧ iv = .int .i64 k ∧ Ints wr (.slice (some ⟨g, 0, none⟩) N N) ((List.range N).map (powf a b N)) ∧ Ints wr (.slice (some ⟨g2, 0, none⟩) N N) ((List.range N).map (powf (a * ct) (b * ct) N)) ∧ IntAt wr (.agg #[.bool sk, .slice mk lk ck]) (ct ^ (N - 1)) ∧ Box wr gk (.bool sk) (.slice mk lk ck) ∧ Below w.heap.size w wr) (fun iv _ => N - (intOf iv).toNat)
      case atStart => exact ⟨0, Nat.zero_le _, rfl, L1.out, L2.out, IK.out, KX.out, HB.out⟩
      case round =>
      clear L1 L2 IK KX HB
      obtain ⟨k, hk, rfl, h1, h2, h3, h4, hbel⟩ := hrel
      have L1 := hide h1
      have L2 := hide h2
      have IK := hide h3
      have KX := hide h4
      have HB := hide hbel
      clear h1 h2 h3 h4 hbel
      by_cases hlt : k < N
      · skip
        obtain ⟨b1, off1, e1, s, m, l, c1, k1, k2, k3⟩ := L2.out.at (i := k) (by rw [powl_len]; exact hlt)
        obtain ⟨rfl, rfl⟩ : g2 = b1 ∧ 0 = off1 := by simpa using e1
        clear e1
        obtain ⟨b2, off2, e2, s2, m2, l2, c2, q1, q2, q3⟩ := L1.out.at (i := k) (by rw [powl_len]; exact hlt)
        obtain ⟨rfl, rfl⟩ : g = b2 ∧ 0 = off2 := by simpa using e2
        clear e2
        rw [powl_getD _ _ _ _ hlt] at k3 q3
        rw [powf_scale a b ct N k hlt] at k3
        rw [Nat.zero_add] at k1 k2 q1 q2
        have K1 := hide k1
        have K2 := hide k2
        have Q1 := hide q1
        have Q2 := hide q2
        have I1 := hide k3
        have I2 := hide q3
        clear k1 k2 k3 q1 q2 q3
        have LK := hide (SzI.len (powf_sz (a := a) (b := b) (by have := in_yes HIN.out; omega) (by have := in_yes HIN.out; omega) HN hlt) (by decide))
        have LC := hide (SzI.len (pw_sz (a := ct) (j := N - 1) (by omega) (by omega)) (by decide))
        generalize powf a b N k = z at *
        go_upto_region 24 with fail
        refine wp_calm (fun w' => Below w.heap.size w w' ∧ CellAt w' ⟨g2, k * 2, none⟩ (.bool s) ∧ CellAt w' ⟨g2, k * 2 + 1, none⟩ (.slice m l c1) ∧ CellAt w' ⟨g, k * 2, none⟩ (.bool s2) ∧ CellAt w' ⟨g, k * 2 + 1, none⟩ (.slice m2 l2 c2) ∧ IntAt w' (.agg #[.bool s, .slice m l c1]) (z * ct ^ (N - 1)) ∧ IntAt w' (.agg #[.bool s2, .slice m2 l2 c2]) z ∧ IntAt w' (.agg #[.bool sk, .slice mk lk ck]) (ct ^ (N - 1)) ∧ Box w' gk (.bool sk) (.slice mk lk ck) ∧ Ints w' (.slice (some ⟨g, 0, none⟩) N N) ((List.range N).map (powf a b N)) ∧ Ints w' (.slice (some ⟨g2, 0, none⟩) N N) ((List.range N).map (powf (a * ct) (b * ct) N))) (fun _ => true) 12 #[false, false, false, false, false, false, false, false, false, false, false, false] (by kernel_rfl) rfl rfl ?_
        have HF := hide (And.intro (HB.out.drew) (And.intro (K1.out.drew) (And.intro (K2.out.drew) (And.intro (Q1.out.drew) (And.intro (Q2.out.drew) (And.intro (I1.out.drew) (And.intro (I2.out.drew) (And.intro (IK.out.drew) (And.intro (KX.out.drew) (And.intro ((L1.out.below (Below.refl _ _).drew)) ((L2.out.below (Below.refl _ _).drew))))))))))))
        generalize wr.drew = wrd at *
        refine Calm.take (i := 0) (v := ?_) (a' := ?_) (l' := #[true, false, false, false, false, false, false, false, false, false, false, false]) (d := some 121) rfl (by kernel_rfl) (by kernel_rfl) (by kernel_rfl) (by kernel_rfl) (fun _ _ _ h => h) HF.out rfl ?_ rfl rfl ?_ ?_
        rotate_left
        · intro w' hF; clear hF; go_simp; try rfl
        rotate_left
        · simp only [Act.put]; exact rfl
        refine Calm.take (i := 1) (v := ?_) (a' := ?_) (l' := #[true, true, false, false, false, false, false, false, false, false, false, false]) (d := some 122) rfl (by kernel_rfl) (by kernel_rfl) (by kernel_rfl) (by kernel_rfl) (fun _ _ _ h => h) HF.out rfl ?_ rfl rfl ?_ ?_
        rotate_left
        · intro w' hF; clear hF; go_simp; try rfl
        rotate_left
        · simp only [Act.put]; exact rfl
        refine Calm.take (i := 2) (v := ?_) (a' := ?_) (l' := #[true, true, true, false, false, false, false, false, false, false, false, false]) (d := some 123) rfl (by kernel_rfl) (by kernel_rfl) (by kernel_rfl) (by kernel_rfl) (fun _ _ _ h => h) HF.out rfl ?_ rfl rfl ?_ ?_
        rotate_left
        · intro w' hF; clear hF; go_simp; try rfl
        rotate_left
        · simp only [Act.put]; exact rfl
        refine Calm.take (i := 3) (v := ?_) (a' := ?_) (l' := #[true, true, true, true, false, false, false, false, false, false, false, false]) (d := some 124) rfl (by kernel_rfl) (by kernel_rfl) (by kernel_rfl) (by kernel_rfl) (fun _ _ _ h => h) HF.out rfl ?_ rfl rfl ?_ ?_
        rotate_left
        · intro w' hF; have f10 := hF.2.1.out; have f20 := hF.2.2.1.out; have f30 := hF.2.2.2.1.out; have f40 := hF.2.2.2.2.1.out; have f80 := hF.2.2.2.2.2.2.2.2.1.cell0; have f81 := hF.2.2.2.2.2.2.2.2.1.cell1; clear hF; go_simp; try rfl
        rotate_left
        · simp only [Act.put]; exact rfl
        refine Calm.take (i := 4) (v := ?_) (a' := ?_) (l' := #[true, true, true, true, true, false, false, false, false, false, false, false]) (d := some 125) rfl (by kernel_rfl) (by kernel_rfl) (by kernel_rfl) (by kernel_rfl) (fun _ _ _ h => h) HF.out rfl ?_ rfl rfl ?_ ?_
        rotate_left
        · intro w' hF; clear hF; go_simp; try rfl
        rotate_left
        · simp only [Act.put]; exact rfl
        refine Calm.take (i := 5) (v := ?_) (a' := ?_) (l' := #[true, true, true, true, true, true, false, false, false, false, false, false]) (d := some 126) rfl (by kernel_rfl) (by kernel_rfl) (by kernel_rfl) (by kernel_rfl) (fun _ _ _ h => h) HF.out rfl ?_ rfl rfl ?_ ?_
        rotate_left
        · intro w' hF; clear hF; go_simp; try rfl
        rotate_left
        · simp only [Act.put]; exact rfl
        refine Calm.take (i := 6) (v := ?_) (a' := ?_) (l' := #[true, true, true, true, true, true, true, false, false, false, false, false]) (d := some 127) rfl (by kernel_rfl) (by kernel_rfl) (by kernel_rfl) (by kernel_rfl) (fun _ _ _ h => h) HF.out rfl ?_ rfl rfl ?_ ?_
        rotate_left
        · intro w' hF; clear hF; go_simp; try rfl
        rotate_left
        · simp only [Act.put]; exact rfl
        refine Calm.take (i := 7) (v := ?_) (a' := ?_) (l' := #[true, true, true, true, true, true, true, true, false, false, false, false]) (d := some 128) rfl (by kernel_rfl) (by kernel_rfl) (by kernel_rfl) (by kernel_rfl) (fun _ _ _ h => h) HF.out rfl ?_ rfl rfl ?_ ?_
        rotate_left
        · intro w' hF; have f10 := hF.2.1.out; have f20 := hF.2.2.1.out; have f30 := hF.2.2.2.1.out; have f40 := hF.2.2.2.2.1.out; have f80 := hF.2.2.2.2.2.2.2.2.1.cell0; have f81 := hF.2.2.2.2.2.2.2.2.1.cell1; clear hF; go_simp; try rfl
        rotate_left
        · simp only [Act.put]; exact rfl
        refine Calm.take (i := 8) (v := ?_) (a' := ?_) (l' := #[true, true, true, true, true, true, true, true, true, false, false, false]) (d := some 129) rfl (by kernel_rfl) (by kernel_rfl) (by kernel_rfl) (by kernel_rfl) (fun _ _ _ h => h) HF.out rfl ?_ rfl rfl ?_ ?_
        rotate_left
        · intro w' hF; have f10 := hF.2.1.out; have f20 := hF.2.2.1.out; have f30 := hF.2.2.2.1.out; have f40 := hF.2.2.2.2.1.out; have f80 := hF.2.2.2.2.2.2.2.2.1.cell0; have f81 := hF.2.2.2.2.2.2.2.2.1.cell1; clear hF; go_simp; try rfl
        rotate_left
        · simp only [Act.put]; exact rfl
        refine Calm.one (i := 9) (l' := #[true, true, true, true, true, true, true, true, true, true, false, false]) (by kernel_rfl) rfl rfl rfl fun K hK => ?_
        go_simp
        refine (imul_any _ _ z (ct ^ (N - 1)) _ HF.out.2.2.2.2.2.2.1 HF.out.2.2.2.2.2.2.2.1 LK.out LC.out).mono ?_
        rintro e x1 ⟨v, rfl, i, hb⟩
        have HF' := hide (And.intro (HF.out.1.trans ((hb).mono HF.out.1.size)) (And.intro (HF.out.2.1.step (hb)) (And.intro (HF.out.2.2.1.step (hb)) (And.intro (HF.out.2.2.2.1.step (hb)) (And.intro (HF.out.2.2.2.2.1.step (hb)) (And.intro (HF.out.2.2.2.2.2.1.below (hb)) (And.intro (HF.out.2.2.2.2.2.2.1.below (hb)) (And.intro (HF.out.2.2.2.2.2.2.2.1.below (hb)) (And.intro (HF.out.2.2.2.2.2.2.2.2.1.step (hb)) (And.intro (HF.out.2.2.2.2.2.2.2.2.2.1.below (hb)) (HF.out.2.2.2.2.2.2.2.2.2.2.below (hb))))))))))))
        have TV := hide (i)
        refine hK _ _ (fun _ => HF'.out) ?_
        clear hK K HF hb i
        have HF := hide HF'.out
        clear HF'
        refine Calm.one (i := 10) (l' := #[true, true, true, true, true, true, true, true, true, true, true, false]) (by kernel_rfl) rfl rfl rfl fun K hK => ?_
        go_simp
        refine (icmp_same _ _ (z * ct ^ (N - 1)) (z * ct ^ (N - 1)) _ HF.out.2.2.2.2.2.1 TV.out rfl).mono ?_
        rintro e x2 ⟨rfl, hb⟩
        clear TV
        have HF' := hide (And.intro (HF.out.1.trans ((hb).mono HF.out.1.size)) (And.intro (HF.out.2.1.step (hb)) (And.intro (HF.out.2.2.1.step (hb)) (And.intro (HF.out.2.2.2.1.step (hb)) (And.intro (HF.out.2.2.2.2.1.step (hb)) (And.intro (HF.out.2.2.2.2.2.1.below (hb)) (And.intro (HF.out.2.2.2.2.2.2.1.below (hb)) (And.intro (HF.out.2.2.2.2.2.2.2.1.below (hb)) (And.intro (HF.out.2.2.2.2.2.2.2.2.1.step (hb)) (And.intro (HF.out.2.2.2.2.2.2.2.2.2.1.below (hb)) (HF.out.2.2.2.2.2.2.2.2.2.2.below (hb))))))))))))
        refine hK _ _ (fun _ => HF'.out) ?_
        clear hK K HF hb
        have HF := hide HF'.out
        clear HF'
        refine Calm.take (i := 11) (v := ?_) (a' := ?_) (l' := #[true, true, true, true, true, true, true, true, true, true, true, true]) (d := some 132) rfl (by kernel_rfl) (by kernel_rfl) (by kernel_rfl) (by kernel_rfl) (fun _ _ _ h => h) HF.out rfl ?_ rfl rfl ?_ ?_
        rotate_left
        · intro w' hF; clear hF; go_simp; try rfl
        rotate_left
        · simp only [Act.put]; exact rfl
        refine Calm.done (by kernel_rfl) ?_
        replace HB := hide HF.out.1
        replace IK := hide HF.out.2.2.2.2.2.2.2.1
        replace KX := hide HF.out.2.2.2.2.2.2.2.2.1
        replace L1 := hide HF.out.2.2.2.2.2.2.2.2.2.1
        replace L2 := hide HF.out.2.2.2.2.2.2.2.2.2.2
        clear HF K1 K2 Q1 Q2 I1 I2
        go_wp2
        go_roundw
        case rel => exact ⟨k + 1, by omega, by go_num, L1.out, L2.out, IK.out, KX.out, HB.out⟩
        case measure => simp [intOf]; omega
      · go_wp2
        go_ret
        exact ⟨rfl, HB.out⟩
  · have hbad : inB a b = false ∨ n < 0 ∨ 16 < n := by
      cases hi : inB a b with
      | false => exact .inl rfl
      | true =>
        right
        by_cases h0 : n < 0
        · exact .inl h0
        · exact .inr (by
            rcases Int.lt_or_le 16 n with h | h
            · exact h
            · exact absurd ⟨hi, by omega, h⟩ hgood)
    have HBAD := hide hbad
    clear hbad hgood
    have HX0 := HX.out.cell0
    have HX1 := HX.out.cell1
    go_wp2_with fail
    refine (powers_out a b n _ HBAD.out).mono ?_
    rintro e w2 ⟨rfl, hb⟩
    clear HX0 HX1
    replace HB := hide (HB.out.trans ((hb).mono HB.out.size))
    replace HX := hide (HX.out.step (hb))
    clear hb
    have HX0 := HX.out.cell0
    have HX1 := HX.out.cell1
    go_wp2_with fail
    refine (rin_any a b _).mono ?_
    rintro e w3 ⟨rfl, hb⟩
    clear HX0 HX1
    replace HB := hide (HB.out.trans ((hb).mono HB.out.size))
    replace HX := hide (HX.out.step (hb))
    clear hb
    cases hi : inB a b with
    | false =>
      go_wp2_with fail
      refine (live_any _).mono ?_
      rintro e w4 ⟨rfl, hb⟩
      replace HB := hide (HB.out.trans (hb.mono HB.out.size))
      clear hb
      go_wp2
      go_ret
      exact ⟨rfl, HB.out⟩
    | true =>
      have h2 : n < 0 ∨ 16 < n := by rcases HBAD.out with h | h; rw [hi] at h; cases h; exact h
      by_cases hn : n < 0
      · skip
        go_wp2_with fail
        refine (live_any _).mono ?_
        rintro e w4 ⟨rfl, hb⟩
        replace HB := hide (HB.out.trans (hb.mono HB.out.size))
        clear hb
        go_wp2
        go_ret
        exact ⟨rfl, HB.out⟩
      · have h3 : 16 < n := by omega
        clear h2
        go_wp2_with fail
        refine (live_any _).mono ?_
        rintro e w4 ⟨rfl, hb⟩
        replace HB := hide (HB.out.trans (hb.mono HB.out.size))
        clear hb
        go_wp2
        go_ret
        exact ⟨rfl, HB.out⟩
end Go.Proofs.Ytlockdhhidghdab
