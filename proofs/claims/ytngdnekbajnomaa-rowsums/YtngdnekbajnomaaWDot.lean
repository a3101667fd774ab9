/- row.Dot, row.Content. -/
import Derived.Test.YtngdnekbajnomaaWReck2
import Derived.Test.YtngdnekbajnomaaWMake
namespace Go.Proofs.Ytngdnekbajnomaa
open Go.RowKit

set_option maxRecDepth 100000 in
set_option maxHeartbeats 2000000 in
theorem rdot_any (va vb : Value) (xs ys : List Int) (k j : Nat) (w : World) (h1 : Ints w va xs) (h2 : Ints w vb ys) (hl : ys.length = xs.length) (hm : xs.length ≤ 4000000000) (s1 : SzL k xs) (s2 : SzL k ys) (hk : k ≤ 1000000000)
    (hacc : ∀ i, SzI j (accZ (· + ·) 0 ((List.range xs.length).map fun i => xs.getD i 0 * ys.getD i 0) i)) (hel : SzL j ((List.range xs.length).map fun i => xs.getD i 0 * ys.getD i 0)) (hj : j ≤ 1000000000) :
    Calls Try.prog 12 #[va, vb] w fun e w' => ∃ v, e = .returned (.tuple #[v, .int .i64 0]) ∧ IntAt w' v (accZ (· + ·) 0 ((List.range xs.length).map fun i => xs.getD i 0 * ys.getD i 0) xs.length) ∧ Below w.heap.size w w' := by
  have H1 := hide h1
  have H2 := hide h2
  have S1 := hide s1
  have S2 := hide s2
  have HAC := hide hacc
  have HEL := hide hel
  have HJ := hide hj
  obtain ⟨aa, ca, rfl, _, hma, _⟩ := h1
  obtain ⟨ab, cb, rfl, _, hmb, _⟩ := h2
  have HP := hide (Box.new w (.bool false) (.slice none 0 0))
  have HB := hide (below_alloc w (.cells #[.bool false, .slice none 0 0] 36))
  clear s1 s2 hacc hel hj
  generalize hyl : ys.length = ny at *
  subst hl
  have HL := hide hyl
  clear hyl
  have HLP : Hid (((List.range xs.length).map fun i => xs.getD i 0 * ys.getD i 0).length = xs.length) := hide (by simp)
  go_enter Try.func12, Try.ntmps12
  go_wp2_with fail
  refine (pairs_any 34 #[] (enters_of Try.func34 (by kernel_rfl) rfl) _ _ xs ys (fun i => xs.getD i 0 * ys.getD i 0) _ (H1.out.below HB.out) (H2.out.below HB.out) HL.out hm fun i w' v1 v2 _ _ i1 i2 => by rw [Array.append_empty]; exact imul_any v1 v2 (xs.getD i 0) (ys.getD i 0) w' i1 i2 (SzI.len (S1.out i) hk) (SzI.len (S2.out i) hk)).mono ?_
  rintro e w1 ⟨b, rfl, hsb, hr, hb⟩
  have HR := hide hr
  replace HP := hide (HP.out.step hb)
  replace HB := hide (HB.out.trans (hb.mono HB.out.size))
  clear hr hb hsb
  generalize hps : (List.range xs.length).map (fun i => xs.getD i 0 * ys.getD i 0) = ps at *
  have HPS := hide hps
  clear hps
  have HI := hide (HR.out.ints (by rw [HLP.out]; unfold maxLen; omega))
  rw [HLP.out] at HI
  go_wp2_with fail
  refine (isum_any _ ps _ HI.out (fun i _ => SzI.len (HAC.out i) HJ.out) (fun i _ => SzI.len (HEL.out i) HJ.out)).mono ?_
  rintro e w2 ⟨v, rfl, n, hb⟩
  obtain ⟨s, m, l, c, rfl, n⟩ := n.cells
  rw [HLP.out] at n
  have IV := hide n
  replace HP := hide (HP.out.step hb)
  replace HB := hide (HB.out.trans (hb.mono HB.out.size))
  clear hb n HI HR
  have c0 := HP.out.cell0
  have c1 := HP.out.cell1
  have f0 := HP.out.free 0
  have f1 := HP.out.free 1
  go_wp2
  refine ret_one rfl w.heap.size _ _ rfl (HP.out.put _ _) rfl ?_
  exact ⟨_, rfl, by rw [HPS.out]; exact IV.out.keep (HP.out.keeps (by simp) (by simp) _ _), below_put HB.out (Nat.le_refl _) _ _⟩

/-- the greatest divisor of the first k -/
def gcdTo (zs : List Int) : Nat → Nat
  | 0 => 0
  | k + 1 => Int.gcd (gcdTo zs k : Int) (zs.getD k 0)
theorem gcdTo_one {zs : List Int} {k : Nat} (h : gcdTo zs k = 1) : ∀ j, gcdTo zs (k + j) = 1
  | 0 => h
  | j + 1 => by show Int.gcd (gcdTo zs (k + j) : Int) _ = 1; rw [gcdTo_one h j]; simp
theorem gcd_sz4 {k : Nat} {x y : Int} (h1 : SzI k x) (h2 : SzI k y) : SzI k (Int.gcd x y : Int) := by
  by_cases hy : y = 0
  · subst hy; rw [Int.gcd_zero_right]; unfold SzI at *; rw [Int.natAbs_natCast]; exact h1
  · refine Nat.lt_of_le_of_lt ?_ h2
    rw [Int.natAbs_natCast]
    exact Nat.le_of_dvd (by omega) (Int.natAbs_dvd_natAbs.2 (Int.gcd_dvd_right x y) |> fun h => by simpa using h)
theorem gcdTo_sz {k : Nat} {zs : List Int} (h : SzL k zs) : ∀ i, SzI k (gcdTo zs i : Int)
  | 0 => by unfold SzI; exact Nat.pow_pos BB_pos
  | i + 1 => gcd_sz4 (gcdTo_sz h i) (h i)

end Go.Proofs.Ytngdnekbajnomaa
