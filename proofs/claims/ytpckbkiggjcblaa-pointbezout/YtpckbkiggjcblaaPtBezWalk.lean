/- swagelaw06.PointBezout answers true at all points, and turns nothing that was there. -/
import Derived.Test.YtpckbkiggjcblaaPtBez
namespace Go.Proofs.Ytpckbkiggjcblaa
open Go.RowKit

theorem bUV_fact {a b : Int} (h : inB a b = true) : ((bUV a b).1).natAbs ≤ 16 ∧ ((bUV a b).2).natAbs ≤ 16 ∧ (bUV a b).1 * a + (bUV a b).2 * b = gI a b := by
  obtain ⟨⟨ha, ha'⟩, hb, hb'⟩ := in_yes h
  by_cases h0 : b = 0
  · rw [show bUV a b = (sgZ a, 0) from if_neg (by simp [h0])]
    subst h0
    by_cases hz : a = 0
    · subst hz; exact ⟨by decide, by decide, rfl⟩
    · have := (sgZ_div hz).2.1
      refine ⟨?_, (show ((0 : Int)).natAbs ≤ 16 by decide), by simp only [Int.zero_mul, Int.add_zero]; exact this⟩
      show (sgZ a).natAbs ≤ 16
      unfold sgZ; split
      · decide
      · split <;> decide
  · rw [show bUV a b = (bU a b, bV a b) from if_pos h0]
    have f := bzfact ha ha' hb hb' h0
    exact ⟨f.u16, f.v16, f.sum⟩

set_option maxRecDepth 100000 in
set_option maxHeartbeats 4000000 in
theorem pbez_walk (a b : Int) (w : World) :
    Calls Try.prog 5 #[.agg #[.int .i64 a, .int .i64 b]] w fun e w' => e = .returned (.bool true) ∧ Below w.heap.size w w' := by
  have HX := hide (Box2.new w 23 (.int .i64 a) (.int .i64 b))
  have HB := hide (below_alloc w (.cells #[.int .i64 a, .int .i64 b] 23))
  obtain ⟨i, hi⟩ : ∃ i, inB a b = i := ⟨_, rfl⟩
  have HI := hide hi
  clear hi
  go_enter Try.func5, Try.ntmps5
  go_wp2_with fail
  generalize w.alloc (.cells #[.int .i64 a, .int .i64 b] 23) = w0 at *
  refine (live_any _).mono ?_
  rintro e w1 ⟨rfl, hb⟩
  replace HX := hide (HX.out.step hb)
  replace HB := hide (HB.out.trans (hb.mono HB.out.size))
  clear hb
  have c0 := HX.out.cell0
  have c1 := HX.out.cell1
  cases i with
  | false =>
    go_wp2_with fail
    refine (bez_out a b _ HI.out).mono ?_
    rintro e w2 ⟨rfl, hb⟩
    clear c0 c1
    replace HX := hide (HX.out.step hb)
    replace HB := hide (HB.out.trans (hb.mono HB.out.size))
    clear hb
    have c0 := HX.out.cell0
    have c1 := HX.out.cell1
    go_wp2_with fail
    refine (rin_any a b _).mono ?_
    rintro e w3 ⟨rfl, hb⟩
    rw [HI.out]
    clear c0 c1
    replace HX := hide (HX.out.step hb)
    replace HB := hide (HB.out.trans (hb.mono HB.out.size))
    clear hb
    have c0 := HX.out.cell0
    have c1 := HX.out.cell1
    go_wp2_with fail
    refine (live_any _).mono ?_
    rintro e w4 ⟨rfl, hb⟩
    clear c0 c1
    replace HX := hide (HX.out.step hb)
    replace HB := hide (HB.out.trans (hb.mono HB.out.size))
    clear hb
    have c0 := HX.out.cell0
    have c1 := HX.out.cell1
    go_wp2
    go_ret
    exact ⟨rfl, HB.out⟩
  | true =>
    go_wp2_with fail
    refine (bez_in a b _ HI.out).mono ?_
    rintro e w2 ⟨rfl, hb⟩
    clear c0 c1
    replace HX := hide (HX.out.step hb)
    replace HB := hide (HB.out.trans (hb.mono HB.out.size))
    clear hb
    have c0 := HX.out.cell0
    have c1 := HX.out.cell1
    go_wp2_with fail
    refine (rin_any a b _).mono ?_
    rintro e w3 ⟨rfl, hb⟩
    rw [HI.out]
    clear c0 c1
    replace HX := hide (HX.out.step hb)
    replace HB := hide (HB.out.trans (hb.mono HB.out.size))
    clear hb
    have c0 := HX.out.cell0
    have c1 := HX.out.cell1
    go_wp2_with fail
    refine (rbez_all a b _ HI.out).mono ?_
    rintro e w4 ⟨rfl, hb⟩
    clear c0 c1
    replace HX := hide (HX.out.step hb)
    replace HB := hide (HB.out.trans (hb.mono HB.out.size))
    clear hb
    have c0 := HX.out.cell0
    have c1 := HX.out.cell1
    have hg0 := gI_nonneg a b
    have hg1 := gI_le a b 16 (in_yes HI.out).1.1 (in_yes HI.out).1.2 (in_yes HI.out).2.1 (in_yes HI.out).2.2
    obtain ⟨hu, hv, hs⟩ := bUV_fact HI.out
    obtain ⟨⟨ha, ha'⟩, hb0, hb'⟩ := in_yes HI.out
    have h1 : ((bUV a b).1 * a).natAbs ≤ 16 * 16 := by rw [Int.natAbs_mul]; exact Nat.mul_le_mul hu (by omega)
    have h2 : ((bUV a b).2 * b).natAbs ≤ 16 * 16 := by rw [Int.natAbs_mul]; exact Nat.mul_le_mul hv (by omega)
    generalize (bUV a b).1 = u at *
    generalize (bUV a b).2 = v at *
    generalize gI a b = g at *
    have k1 : -256 ≤ u * a := by omega
    have k2 : u * a ≤ 256 := by omega
    have k3 : -256 ≤ v * b := by omega
    have k4 : v * b ≤ 256 := by omega
    have u1 : -16 ≤ u := by omega
    have u2 : u ≤ 16 := by omega
    have v1 : -16 ≤ v := by omega
    have v2 : v ≤ 16 := by omega
    clear h1 h2 hu hv
    go_wp2_with fail
    refine (live_any _).mono ?_
    rintro e w5 ⟨rfl, hb⟩
    clear c0 c1
    replace HX := hide (HX.out.step hb)
    replace HB := hide (HB.out.trans (hb.mono HB.out.size))
    clear hb
    have c0 := HX.out.cell0
    have c1 := HX.out.cell1
    go_wp2
    go_ret
    exact ⟨rfl, HB.out⟩
end Go.Proofs.Ytpckbkiggjcblaa
