/- row.Dot, row.Content. -/
import Derived.Test.YtmeckembnglhiaaIDiv
import Derived.Test.YtmeckembnglhiaaWReck2
import Derived.Test.YtmeckembnglhiaaWMake
namespace Go.Proofs.Ytmeckembnglhiaa
open Go.RowKit

set_option maxRecDepth 100000 in
set_option maxHeartbeats 1000000 in
theorem igcd_any (v1 v2 : Value) (x y : Int) (w : World) (h1 : IntAt w v1 x) (h2 : IntAt w v2 y) (l1 : (lim x.natAbs).length ≤ 1000000000) (l2 : (lim y.natAbs).length ≤ 1000000000) :
    Calls Try.prog 64 #[v1, v2] w fun e w' => ∃ v', e = .returned v' ∧ IntAt w' v' (Int.gcd x y : Int) ∧ Below w.heap.size w w' := by
  obtain ⟨b1, n1, a1, c1, rfl, hn1, rfl, h01⟩ := h1
  obtain ⟨b2, n2, a2, c2, rfl, hn2, rfl, h02⟩ := h2
  have HE := hide (boxes3 w (.bool b1) (.slice a1 (lim n1).length c1) (.bool b2) (.slice a2 (lim n2).length c2) (.bool false) (.slice none 0 0))
  have HN1 := hide (hn1.below HE.out.2.2.2)
  have HN2 := hide (hn2.below HE.out.2.2.2)
  rw [sg_abs] at l1 l2
  clear hn1 h01 hn2 h02
  go_enter Try.func64, Try.ntmps64
  go_wp2_with fail
  refine (gcd_any _ _ (lim n1) (lim n2) _ HN1.out HN2.out l1 l2).mono ?_
  rintro e w1 ⟨v, rfl, m1, hb1⟩
  rw [val_lim, val_lim] at m1
  have HM := hide m1
  have HX := hide (HE.out.2.2.1.step hb1)
  have HB := hide (HE.out.2.2.2.trans (hb1.mono HE.out.2.2.2.size))
  clear m1 hb1 HE
  go_wp2_with fail
  refine (made_any false (Nat.gcd n1 n2) _ _ HM.out).mono ?_
  rintro e w2 ⟨v, rfl, ⟨b', n', a', c', rfl, hn', he, h0⟩, hb2⟩
  replace HX := hide (HX.out.step hb2)
  replace HB := hide (HB.out.trans (hb2.mono HB.out.size))
  have hc0 := HX.out.cell0
  have hc1 := HX.out.cell1
  have hf0 := HX.out.free 0
  have hf1 := HX.out.free 1
  clear hb2
  go_wp2
  refine ret_int rfl (w.heap.size + 1 + 1) _ _ _ _ rfl ((HX.out.set0 _).set1 _) rfl ?_
  exact handed HX.out (by simp) (by simp) (by omega) HB.out hn' (by rw [← he]; simp [Int.gcd, sg_abs]) h0
end Go.Proofs.Ytmeckembnglhiaa

namespace Go.Proofs.Ytmeckembnglhiaa
open Go.RowKit

set_option maxRecDepth 100000 in
set_option maxHeartbeats 2000000 in
theorem rdot_any (va vb : Value) (xs ys : List Int) (k j : Nat) (w : World) (h1 : Ints w va xs) (h2 : Ints w vb ys) (hl : ys.length = xs.length) (hm : xs.length ≤ 4000000000) (s1 : SzL k xs) (s2 : SzL k ys) (hk : k ≤ 1000000000)
    (hacc : ∀ i, SzI j (accZ (· + ·) 0 ((List.range xs.length).map fun i => xs.getD i 0 * ys.getD i 0) i)) (hel : SzL j ((List.range xs.length).map fun i => xs.getD i 0 * ys.getD i 0)) (hj : j ≤ 1000000000) :
    Calls Try.prog 14 #[va, vb] w fun e w' => ∃ v, e = .returned (.tuple #[v, .int .i64 0]) ∧ IntAt w' v (accZ (· + ·) 0 ((List.range xs.length).map fun i => xs.getD i 0 * ys.getD i 0) xs.length) ∧ Below w.heap.size w w' := by
  have H1 := hide h1
  have H2 := hide h2
  have S1 := hide s1
  have S2 := hide s2
  have HAC := hide hacc
  have HEL := hide hel
  have HJ := hide hj
  obtain ⟨aa, ca, rfl, _, hma, _⟩ := h1
  obtain ⟨ab, cb, rfl, _, hmb, _⟩ := h2
  have HP := hide (Box.new w (.bool false) (.slice none 0 0))
  have HB := hide (below_alloc w (.cells #[.bool false, .slice none 0 0] 36))
  clear s1 s2 hacc hel hj
  generalize hyl : ys.length = ny at *
  subst hl
  have HL := hide hyl
  clear hyl
  have HLP : Hid (((List.range xs.length).map fun i => xs.getD i 0 * ys.getD i 0).length = xs.length) := hide (by simp)
  go_enter Try.func14, Try.ntmps14
  go_wp2_with fail
  refine (pairs_any 36 #[] (enters_of Try.func36 (by kernel_rfl) rfl) _ _ xs ys (fun i => xs.getD i 0 * ys.getD i 0) _ (H1.out.below HB.out) (H2.out.below HB.out) HL.out hm fun i w' v1 v2 _ _ i1 i2 => by rw [Array.append_empty]; exact imul_any v1 v2 (xs.getD i 0) (ys.getD i 0) w' i1 i2 (SzI.len (S1.out i) hk) (SzI.len (S2.out i) hk)).mono ?_
  rintro e w1 ⟨b, rfl, hsb, hr, hb⟩
  have HR := hide hr
  replace HP := hide (HP.out.step hb)
  replace HB := hide (HB.out.trans (hb.mono HB.out.size))
  clear hr hb hsb
  generalize hps : (List.range xs.length).map (fun i => xs.getD i 0 * ys.getD i 0) = ps at *
  have HPS := hide hps
  clear hps
  have HI := hide (HR.out.ints (by rw [HLP.out]; unfold maxLen; omega))
  rw [HLP.out] at HI
  go_wp2_with fail
  refine (isum_any _ ps _ HI.out (fun i _ => SzI.len (HAC.out i) HJ.out) (fun i _ => SzI.len (HEL.out i) HJ.out)).mono ?_
  rintro e w2 ⟨v, rfl, n, hb⟩
  obtain ⟨s, m, l, c, rfl, n⟩ := n.cells
  rw [HLP.out] at n
  have IV := hide n
  replace HP := hide (HP.out.step hb)
  replace HB := hide (HB.out.trans (hb.mono HB.out.size))
  clear hb n HI HR
  have c0 := HP.out.cell0
  have c1 := HP.out.cell1
  have f0 := HP.out.free 0
  have f1 := HP.out.free 1
  go_wp2
  refine ret_one rfl w.heap.size _ _ rfl (HP.out.put _ _) rfl ?_
  exact ⟨_, rfl, by rw [HPS.out]; exact IV.out.keep (HP.out.keeps (by simp) (by simp) _ _), below_put HB.out (Nat.le_refl _) _ _⟩

/-- the greatest divisor of the first k -/
def gcdTo (zs : List Int) : Nat → Nat
  | 0 => 0
  | k + 1 => Int.gcd (gcdTo zs k : Int) (zs.getD k 0)
theorem gcdTo_one {zs : List Int} {k : Nat} (h : gcdTo zs k = 1) : ∀ j, gcdTo zs (k + j) = 1
  | 0 => h
  | j + 1 => by show Int.gcd (gcdTo zs (k + j) : Int) _ = 1; rw [gcdTo_one h j]; simp
theorem gcd_sz4 {k : Nat} {x y : Int} (h1 : SzI k x) (h2 : SzI k y) : SzI k (Int.gcd x y : Int) := by
  by_cases hy : y = 0
  · subst hy; rw [Int.gcd_zero_right]; unfold SzI at *; rw [Int.natAbs_natCast]; exact h1
  · refine Nat.lt_of_le_of_lt ?_ h2
    rw [Int.natAbs_natCast]
    exact Nat.le_of_dvd (by omega) (Int.natAbs_dvd_natAbs.2 (Int.gcd_dvd_right x y) |> fun h => by simpa using h)
theorem gcdTo_sz {k : Nat} {zs : List Int} (h : SzL k zs) : ∀ i, SzI k (gcdTo zs i : Int)
  | 0 => by unfold SzI; exact Nat.pow_pos BB_pos
  | i + 1 => gcd_sz4 (gcdTo_sz h i) (h i)

set_option maxRecDepth 100000 in
set_option maxHeartbeats 8000000 in
theorem content_any (va : Value) (zs : List Int) (K : Nat) (w : World) (h : Ints w va zs) (hs : SzL K zs) (hK : K ≤ 1000000000) :
    Calls Try.prog 31 #[va] w fun e w' => ∃ v, e = .returned v ∧ IntAt w' v (gcdTo zs zs.length : Int) ∧ Below w.heap.size w w' := by
  have HI := hide h
  have LZ : Hid (∀ i, (lim (zs.getD i 0).natAbs).length ≤ 1000000000) := hide (fun i => SzI.len (hs i) hK)
  have LG : Hid (∀ i, (lim (gcdTo zs i : Int).natAbs).length ≤ 1000000000) := hide (fun i => SzI.len (gcdTo_sz hs i) hK)
  obtain ⟨a, cap, rfl, hcap, hmx, _⟩ := h
  unfold maxLen at hmx
  have HE := hide (boxes2 w (.bool false) (.slice none 0 0) (.bool false) (.slice none 0 0))
  have P0 := hide HE.out.1
  have PW := hide HE.out.2.1
  have HB := hide HE.out.2.2
  clear HE hs hK
  go_enter Try.func31, Try.ntmps31
  go_wp2
  go_step3
  go_wp2_with fail
  generalize (w.alloc (.cells #[.bool false, .slice none 0 0] 36)).alloc (.cells #[.bool false, .slice none 0 0] 36) = w0 at *
  refine (iof_any 1 _ (by decide) (by decide)).mono ?_
  rintro e w1 ⟨v, rfl, n, hb⟩
  obtain ⟨so, mo, lo, co, rfl, n⟩ := n.cells
  have GO : Hid (w.heap.size + 1 < w1.heap.size) := hide (PW.out.step hb).lt
  replace P0 := hide ((P0.out.step hb).step (below_alloc w1 (.cells #[.bool so, .slice mo lo co] 36)))
  replace PW := hide ((PW.out.step hb).step (below_alloc w1 (.cells #[.bool so, .slice mo lo co] 36)))
  replace HB := hide ((HB.out.trans (hb.mono HB.out.size)).trans ((below_alloc w1 (.cells #[.bool so, .slice mo lo co] 36)).mono (HB.out.trans (hb.mono HB.out.size)).size))
  have PO := hide (Box.new w1 (.bool so) (.slice mo lo co))
  have IhO := hide (n.below (below_alloc w1 (.cells #[.bool so, .slice mo lo co] 36)))
  clear hb n
  go_upto_region 3 with fail
  generalize w1.alloc (.cells #[.bool so, .slice mo lo co] 36) = w2 at *
  generalize w1.heap.size = go' at *
  go_wp2
  go_step3
  go_wp2
  go_loopw [6, 10] (fun _ iv wr => ∃ k : Nat, k ≤ zs.length ∧ iv = .int .i64 k ∧ Below w.heap.size w wr ∧ Box wr w.heap.size (.bool false) (.slice none 0 0) ∧ Box wr go' (.bool so) (.slice mo lo co) ∧ IntAt wr (.agg #[.bool so, .slice mo lo co]) 1 ∧ ∃ s m n c, Box wr (w.heap.size + 1) (.bool s) (.slice m n c) ∧ IntAt wr (.agg #[.bool s, .slice m n c]) (gcdTo zs k : Int)) (fun _ iv _ => zs.length - (intOf iv).toNat)
  case atStart => exact ⟨0, Nat.zero_le _, rfl, HB.out, P0.out, PO.out, IhO.out, false, none, 0, 0, PW.out, int_nought _⟩
  case round =>
    obtain ⟨k, hk, rfl, hbel, hP, hO, hIO, sw, mw, lw, cw, hW, hI⟩ := hrel
    clear HB P0 PO IhO PW
    have HB := hide hbel
    have P0 := hide hP
    have PO := hide hO
    have IhO := hide hIO
    have PW := hide hW
    have IW := hide hI
    clear hbel hP hO hIO hW hI
    by_cases hlt : k < zs.length
    · obtain ⟨b, off, rfl, s, m, l, c, k1, k2, k3⟩ := (HI.out.below HB.out).at hlt
      have HA := hide (below_alloc wr (.cells #[.bool s, .slice m l c] 36))
      have e1 := k1.out
      have e2 := k2.out
      have IX := hide (k3.below HA.out)
      have PX := hide (Box.new wr (.bool s) (.slice m l c))
      replace HB := hide (HB.out.trans (HA.out.mono HB.out.size))
      replace P0 := hide (P0.out.step HA.out)
      replace PO := hide (PO.out.step HA.out)
      replace PW := hide (PW.out.step HA.out)
      replace IhO := hide (IhO.out.below HA.out)
      replace IW := hide (IW.out.below HA.out)
      have L1 := hide (LZ.out k)
      have HN : Hid (gcdTo zs (k + 1) = Int.gcd (gcdTo zs k : Int) (zs.getD k 0)) := hide rfl
      have L2 := hide (LG.out k)
      clear k1 k2 k3 HA
      have x0 := PX.out.cell0
      have x1 := PX.out.cell1
      have p0 := PW.out.cell0
      have p1 := PW.out.cell1
      generalize zs.getD k 0 = z at *
      go_wp2_with fail
      refine (igcd_any _ _ _ z _ IW.out IX.out L2.out L1.out).mono ?_
      rintro e w3 ⟨v, rfl, n, hb⟩
      obtain ⟨sg, mg, lg, cg, rfl, n⟩ := n.cells
      rw [← HN.out] at n
      replace HB := hide (HB.out.trans (hb.mono HB.out.size))
      replace P0 := hide (P0.out.step hb)
      replace PO := hide (PO.out.step hb)
      replace PW := hide (PW.out.step hb)
      replace IhO := hide (IhO.out.below hb)
      have IG := hide n
      clear hb n x0 x1 p0 p1 e1 e2 IX PX IW
      have p0 := PW.out.cell0
      have p1 := PW.out.cell1
      have f0 := PW.out.free 0
      have f1 := PW.out.free 1
      go_upto_region 7 with fail
      have HK := PW.out.keeps (by simp) (by simp) (.bool sg) (.slice mg lg cg)
      replace HB := hide (below_put HB.out (Nat.le_succ _) (.bool sg) (.slice mg lg cg))
      replace P0 := hide (P0.out.other (C := w.heap.size + 1) (by omega) (.bool sg) (.slice mg lg cg))
      replace PO := hide (PO.out.other (C := w.heap.size + 1) (by have := GO.out; omega) (.bool sg) (.slice mg lg cg))
      replace PW := hide (PW.out.put (.bool sg) (.slice mg lg cg))
      replace IhO := hide (IhO.out.keep HK)
      replace IG := hide (IG.out.keep HK)
      clear HK p0 p1 f0 f1
      generalize (w3.setCell ⟨w.heap.size + 1, 0, none⟩ (.bool sg)).setCell ⟨w.heap.size + 1, 1, none⟩ (.slice mg lg cg) = w4 at *
      have p0 := PW.out.cell0
      have p1 := PW.out.cell1
      have o0 := PO.out.cell0
      have o1 := PO.out.cell1
      go_wp2_with fail
      refine (icmp_any _ _ _ 1 _ IG.out IhO.out).mono ?_
      rintro e w5 ⟨rfl, hb⟩
      replace HB := hide (HB.out.trans (hb.mono HB.out.size))
      replace P0 := hide (P0.out.step hb)
      replace PO := hide (PO.out.step hb)
      replace PW := hide (PW.out.step hb)
      replace IhO := hide (IhO.out.below hb)
      replace IG := hide (IG.out.below hb)
      clear hb p0 p1 o0 o1
      by_cases h1 : gcdTo zs (k + 1) = 1
      · have SG : cmpZ (gcdTo zs (k + 1) : Int) 1 = 0 := by rw [h1]; rfl
        have HO : Hid (gcdTo zs (k + 1) = gcdTo zs zs.length) := hide (by have := gcdTo_one h1 (zs.length - (k + 1)); rw [show k + 1 + (zs.length - (k + 1)) = zs.length by omega] at this; rw [h1, this])
        rw [SG]
        clear SG h1
        have p0 := PW.out.cell0
        have p1 := PW.out.cell1
        have z0 := P0.out.cell0
        have z1 := P0.out.cell1
        have f0 := P0.out.free 0
        have f1 := P0.out.free 1
        go_wp2
        try rw [Exit.noGoto_ret]
        refine ret_int rfl w.heap.size _ _ _ _ rfl (P0.out.put _ _) rfl ?_
        exact ⟨_, rfl, by rw [← HO.out]; exact IG.out.keep (P0.out.keeps (by simp) (by simp) _ _), below_put HB.out (Nat.le_refl _) _ _⟩
      · have SG : (cmpZ (gcdTo zs (k + 1) : Int) 1 == 0) = false := by rw [beq_eq_false_iff_ne]; unfold cmpZ; split <;> (try split) <;> omega
        clear h1
        generalize cmpZ (gcdTo zs (k + 1) : Int) 1 = sz at *
        go_wp2
        go_roundw
        case rel => exact ⟨k + 1, by omega, by go_num, HB.out, P0.out, PO.out, IhO.out, sg, mg, lg, cg, PW.out, IG.out⟩
        case measure => simp [intOf]; omega
    · have e : k = zs.length := by omega
      subst e
      have p0 := PW.out.cell0
      have p1 := PW.out.cell1
      have z0 := P0.out.cell0
      have z1 := P0.out.cell1
      have f0 := P0.out.free 0
      have f1 := P0.out.free 1
      go_wp2
      try rw [Exit.noGoto_ret]
      refine ret_int rfl w.heap.size _ _ _ _ rfl (P0.out.put _ _) rfl ?_
      exact ⟨_, rfl, IW.out.keep (P0.out.keeps (by simp) (by simp) _ _), below_put HB.out (Nat.le_refl _) _ _⟩
end Go.Proofs.Ytmeckembnglhiaa
