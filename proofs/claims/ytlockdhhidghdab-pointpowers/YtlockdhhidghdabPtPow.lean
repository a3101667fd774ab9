/- Points: powers (the program's power, Powers). -/
import Derived.Test.YtlockdhhidghdabPtDet
import Derived.Test.YtlockdhhidghdabIPow
import Derived.Test.YtlockdhhidghdabWList
import Derived.Test.YtlockdhhidghdabCalmL
namespace Go.Proofs.Ytlockdhhidghdab
open Go.RowKit

theorem pw_abs {a : Int} {j : Nat} (ha : a.natAbs ≤ 16) (hj : j ≤ 16) : (a ^ j).natAbs ≤ 18446744073709551616 := by
  rw [Int.natAbs_pow]
  exact Nat.le_trans (Nat.pow_le_pow_left ha j) (Nat.le_trans (Nat.pow_le_pow_right (by decide) hj) (by decide))
theorem pw_sz {a : Int} {j : Nat} (ha : a.natAbs ≤ 16) (hj : j ≤ 16) : SzI 3 (a ^ j) := by
  have := pw_abs ha hj
  unfold SzI BB
  omega
def powf (a b : Int) (n j : Nat) : Int := a ^ j * b ^ (n - 1 - j)
theorem powf_sz {a b : Int} {n j : Nat} (ha : a.natAbs ≤ 16) (hb : b.natAbs ≤ 16) (hn : n ≤ 16) (hj : j < n) : SzI 6 (powf a b n j) := SzI.mul (pw_sz ha (by omega)) (pw_sz hb (by omega))

set_option maxRecDepth 100000 in
set_option maxHeartbeats 1000000 in
theorem power_any (x : Int) (E : Nat) (Ez : Int) (w : World) (h1 : -16 ≤ x) (h2 : x ≤ 16) (hE : E ≤ 16) (hz : Ez = E) :
    Calls Try.prog 70 #[.int .i64 x, .int .i64 Ez] w fun e w' => ∃ v, e = .returned v ∧ IntAt w' v (x ^ E) ∧ Below w.heap.size w w' := by
  subst hz
  have BR := hide (Box.new w (.bool false) (.slice none 0 0))
  have HB := hide (below_alloc w (.cells #[.bool false, .slice none 0 0] 31))
  have LX : Hid ((lim x.natAbs).length ≤ 1) := hide (lim_length_le (by unfold BB; omega))
  go_enter Try.func70, Try.ntmps70
  go_wp2_with fail
  generalize w.alloc (.cells #[.bool false, .slice none 0 0] 31) = w0 at *
  refine (iof_any x _ (by omega) (by omega)).mono ?_
  rintro e w1 ⟨v1, rfl, i1, hb⟩
  replace BR := hide (BR.out.step hb)
  replace HB := hide (HB.out.trans (hb.mono HB.out.size))
  have I1 := hide i1
  clear hb i1
  go_wp2_with fail
  refine (ipow_any _ x E _ I1.out (by have := LX.out; omega) (by omega) (by omega)).mono ?_
  rintro e w2 ⟨v, z, a, L, rfl, iz, hL, hL2, hp, hb⟩
  obtain ⟨rfl, rfl⟩ : z = x ^ E ∧ a = 0 := by
    have hLL : L ≤ 32 := by have := LX.out; omega
    rcases hp with ⟨h, _⟩ | ⟨_, h3, h4, _⟩ | ⟨_, _, h5, h6⟩
    · omega
    · have : 2048 ≤ 65536 / L := (Nat.le_div_iff_mul_le h3).2 (by omega)
      omega
    · exact ⟨by rw [h5]; simp, h6⟩
  obtain ⟨s, m, l, c, rfl, iz⟩ := iz.cells
  replace BR := hide (BR.out.step hb)
  replace HB := hide (HB.out.trans (hb.mono HB.out.size))
  have IZ := hide iz
  clear hb iz hL hL2 hp I1
  go_upto_region 2 with fail
  have al := below_alloc w2 (.cells #[.bool s, .slice m l c] 31)
  have XV := hide (Box.new w2 (.bool s) (.slice m l c))
  replace BR := hide (BR.out.step al)
  replace HB := hide (HB.out.trans (al.mono HB.out.size))
  replace IZ := hide (IZ.out.below al)
  clear al
  generalize w2.alloc (.cells #[.bool s, .slice m l c] 31) = w3 at *
  generalize w2.heap.size = gx at *
  have c0 := XV.out.cell0
  have c1 := XV.out.cell1
  have d0 := BR.out.cell0
  have d1 := BR.out.cell1
  have f0 := BR.out.free 0
  have f1 := BR.out.free 1
  go_wp2
  refine ret_int rfl w.heap.size _ _ _ _ rfl ((BR.out.set0 _).set1 _) rfl ?_
  exact ⟨_, rfl, IZ.out.keep (BR.out.keeps (by simp) (by simp) _ _), below_put HB.out (Nat.le_refl _) _ _⟩

set_option maxRecDepth 100000 in
set_option maxHeartbeats 1000000 in
theorem powers_out (a b n : Int) (w : World) (h : inB a b = false ∨ n < 0 ∨ 16 < n) :
    Calls Try.prog 31 #[.agg #[.int .i64 a, .int .i64 b], .int .i64 n] w fun e w' => e = .returned (.tuple #[.slice none 0 0, .int .i64 2]) ∧ Below w.heap.size w w' := by
  have HB := hide (below_alloc w (.cells #[.int .i64 a, .int .i64 b] 72))
  have HH := hide h
  clear h
  go_enter Try.func31, Try.ntmps31
  go_wp2_with fail
  generalize w.alloc (.cells #[.int .i64 a, .int .i64 b] 72) = w0 at *
  refine (in_any a b _).mono ?_
  rintro e w1 ⟨rfl, hb⟩
  replace HB := hide (HB.out.trans (hb.mono HB.out.size))
  clear hb
  cases hi : inB a b with
  | false =>
    go_wp2
    go_ret2
    exact ⟨rfl, HB.out⟩
  | true =>
    have h2 : n < 0 ∨ 16 < n := by rcases HH.out with h | h; rw [hi] at h; cases h; exact h
    by_cases hn : n < 0
    · go_wp2
      go_ret2
      exact ⟨rfl, HB.out⟩
    · have h3 : 16 < n := by omega
      clear h2
      go_wp2
      go_ret2
      exact ⟨rfl, HB.out⟩

set_option maxRecDepth 100000 in
set_option maxHeartbeats 4000000 in
theorem powers_in (a b : Int) (n : Nat) (w : World) (h : inB a b = true) (hn : n ≤ 16) :
    Calls Try.prog 31 #[.agg #[.int .i64 a, .int .i64 b], .int .i64 n] w fun e w' => ∃ g, e = .returned (.tuple #[.slice (some ⟨g, 0, none⟩) n n, .int .i64 0]) ∧ IRow w' g ((List.range n).map (powf a b n)) ∧ Below w.heap.size w w' := by
  have hmk := run_makeI n (by omega)
  have HIN := hide (in_yes h)
  have HX := hide (Box2.new w 72 (.int .i64 a) (.int .i64 b))
  have HB := hide (below_alloc w (.cells #[.int .i64 a, .int .i64 b] 72))
  go_enter Try.func31, Try.ntmps31
  go_wp2_with fail
  generalize w.alloc (.cells #[.int .i64 a, .int .i64 b] 72) = w0 at *
  refine (in_any a b _).mono ?_
  rintro e w1 ⟨rfl, hb⟩
  rw [h]
  replace HX := hide (HX.out.step hb)
  replace HB := hide (HB.out.trans (hb.mono HB.out.size))
  clear hb
  have HR := hide (IRow.new w1 n)
  have hb := below_alloc w1 (.cells (madeCells #[.bool false, .slice none 0 0] (n * 2)) 31)
  have HG := hide HX.out.lt
  replace HX := hide (HX.out.step hb)
  replace HB := hide (HB.out.trans (hb.mono HB.out.size))
  clear hb
  go_wp2
  clear hmk
  generalize w1.alloc (.cells (madeCells #[.bool false, .slice none 0 0] (n * 2)) 31) = w2 at *
  generalize w1.heap.size = g at *
  go_loopw [23, 7] (fun iv _ wr => ∃ k : Nat, k ≤ n ∧ iv = .int .i64 k ∧ IRow wr g (rowTo (powf a b n) n k) ∧ Box2 wr w.heap.size 72 (.int .i64 a) (.int .i64 b) ∧ Below w.heap.size w wr) (fun iv _ _ => n - (intOf iv).toNat)
  case atStart => exact ⟨0, Nat.zero_le _, rfl, by rw [rowTo_zero]; exact HR.out, HX.out, HB.out⟩
  case round =>
    clear HR HX HB
    obtain ⟨k, hk, rfl, hrow, hx, hbel⟩ := hrel
    have HR := hide hrow
    have HX := hide hx
    have HB := hide hbel
    clear hrow hx hbel
    by_cases hlt : k < n
    · go_upto_region 7 with fail
      refine wp_calm (fun w' => Below w.heap.size w w' ∧ Box2 w' w.heap.size 72 (.int .i64 a) (.int .i64 b) ∧ IRow w' g (rowTo (powf a b n) n k)) (fun j => j != 15) 16 #[false, false, false, false, false, false, false, false, false, false, false, false, false, false, false, false] (by kernel_rfl) rfl rfl ?_
      have HF := hide (And.intro (HB.out.drew) (And.intro (HX.out.drew) (HR.out.drew)))
      generalize wr.drew = wrd at *
      refine Calm.take (i := 0) (v := ?_) (a' := ?_) (l' := #[true, false, false, false, false, false, false, false, false, false, false, false, false, false, false, false]) (d := some 26) rfl (by kernel_rfl) (by kernel_rfl) (by kernel_rfl) (by kernel_rfl) (fun _ _ _ h => h) HF.out rfl ?_ rfl rfl ?_ ?_
      rotate_left
      · intro w' hF; clear hF; go_simp; try rfl
      rotate_left
      · simp only [Act.put]; exact rfl
      refine Calm.take (i := 1) (v := ?_) (a' := ?_) (l' := #[true, true, false, false, false, false, false, false, false, false, false, false, false, false, false, false]) (d := some 27) rfl (by kernel_rfl) (by kernel_rfl) (by kernel_rfl) (by kernel_rfl) (fun _ _ _ h => h) HF.out rfl ?_ rfl rfl ?_ ?_
      rotate_left
      · intro w' hF; clear hF; go_simp; try rfl
      rotate_left
      · simp only [Act.put]; exact rfl
      refine Calm.take (i := 2) (v := ?_) (a' := ?_) (l' := #[true, true, true, false, false, false, false, false, false, false, false, false, false, false, false, false]) (d := some 28) rfl (by kernel_rfl) (by kernel_rfl) (by kernel_rfl) (by kernel_rfl) (fun _ _ _ h => h) HF.out rfl ?_ rfl rfl ?_ ?_
      rotate_left
      · intro w' hF; clear hF; go_simp; try rfl
      rotate_left
      · simp only [Act.put]; exact rfl
      refine Calm.take (i := 3) (v := ?_) (a' := ?_) (l' := #[true, true, true, true, false, false, false, false, false, false, false, false, false, false, false, false]) (d := some 29) rfl (by kernel_rfl) (by kernel_rfl) (by kernel_rfl) (by kernel_rfl) (fun _ _ _ h => h) HF.out rfl ?_ rfl rfl ?_ ?_
      rotate_left
      · intro w' hF; have f10 := hF.2.1.cell0; have f11 := hF.2.1.cell1; clear hF; go_simp; try rfl
      rotate_left
      · simp only [Act.put]; exact rfl
      refine Calm.take (i := 4) (v := ?_) (a' := ?_) (l' := #[true, true, true, true, true, false, false, false, false, false, false, false, false, false, false, false]) (d := some 30) rfl (by kernel_rfl) (by kernel_rfl) (by kernel_rfl) (by kernel_rfl) (fun _ _ _ h => h) HF.out rfl ?_ rfl rfl ?_ ?_
      rotate_left
      · intro w' hF; clear hF; go_simp; try rfl
      rotate_left
      · simp only [Act.put]; exact rfl
      refine Calm.take (i := 6) (v := ?_) (a' := ?_) (l' := #[true, true, true, true, true, false, true, false, false, false, false, false, false, false, false, false]) (d := some 32) rfl (by kernel_rfl) (by kernel_rfl) (by kernel_rfl) (by kernel_rfl) (fun _ _ _ h => h) HF.out rfl ?_ rfl rfl ?_ ?_
      rotate_left
      · intro w' hF; clear hF; go_simp; try rfl
      rotate_left
      · simp only [Act.put]; exact rfl
      refine Calm.take (i := 7) (v := ?_) (a' := ?_) (l' := #[true, true, true, true, true, false, true, true, false, false, false, false, false, false, false, false]) (d := some 33) rfl (by kernel_rfl) (by kernel_rfl) (by kernel_rfl) (by kernel_rfl) (fun _ _ _ h => h) HF.out rfl ?_ rfl rfl ?_ ?_
      rotate_left
      · intro w' hF; have f10 := hF.2.1.cell0; have f11 := hF.2.1.cell1; clear hF; go_simp; try rfl
      rotate_left
      · simp only [Act.put]; exact rfl
      refine Calm.take (i := 8) (v := ?_) (a' := ?_) (l' := #[true, true, true, true, true, false, true, true, true, false, false, false, false, false, false, false]) (d := some 34) rfl (by kernel_rfl) (by kernel_rfl) (by kernel_rfl) (by kernel_rfl) (fun _ _ _ h => h) HF.out rfl ?_ rfl rfl ?_ ?_
      rotate_left
      · intro w' hF; clear hF; go_simp; try rfl
      rotate_left
      · simp only [Act.put]; exact rfl
      refine Calm.take (i := 9) (v := ?_) (a' := ?_) (l' := #[true, true, true, true, true, false, true, true, true, true, false, false, false, false, false, false]) (d := some 35) rfl (by kernel_rfl) (by kernel_rfl) (by kernel_rfl) (by kernel_rfl) (fun _ _ _ h => h) HF.out rfl ?_ rfl rfl ?_ ?_
      rotate_left
      · intro w' hF; clear hF; go_simp; try rfl
      rotate_left
      · simp only [Act.put]; exact rfl
      refine Calm.take (i := 10) (v := ?_) (a' := ?_) (l' := #[true, true, true, true, true, false, true, true, true, true, true, false, false, false, false, false]) (d := some 36) rfl (by kernel_rfl) (by kernel_rfl) (by kernel_rfl) (by kernel_rfl) (fun _ _ _ h => h) HF.out rfl ?_ rfl rfl ?_ ?_
      rotate_left
      · intro w' hF; clear hF; go_simp; try rfl
      rotate_left
      · simp only [Act.put]; exact rfl
      refine Calm.take (i := 11) (v := ?_) (a' := ?_) (l' := #[true, true, true, true, true, false, true, true, true, true, true, true, false, false, false, false]) (d := some 37) rfl (by kernel_rfl) (by kernel_rfl) (by kernel_rfl) (by kernel_rfl) (fun _ _ _ h => h) HF.out rfl ?_ rfl rfl ?_ ?_
      rotate_left
      · intro w' hF; clear hF; go_simp; try rfl
      rotate_left
      · simp only [Act.put]; exact rfl
      refine Calm.one (i := 5) (l' := #[true, true, true, true, true, true, true, true, true, true, true, true, false, false, false, false]) (by kernel_rfl) rfl rfl rfl fun K hK => ?_
      go_simp
      refine (power_any a k _ _ HIN.out.1.1 HIN.out.1.2 (by omega) rfl).mono ?_
      rintro e u1 ⟨v, rfl, i, hb⟩
      have HF' := hide (And.intro (HF.out.1.trans ((hb).mono HF.out.1.size)) (And.intro (HF.out.2.1.step (hb)) (HF.out.2.2.step (hb))))
      have T1 := hide (i)
      refine hK _ _ (fun _ => HF'.out) ?_
      clear hK K HF hb i
      have HF := hide HF'.out
      clear HF'
      refine Calm.one (i := 12) (l' := #[true, true, true, true, true, true, true, true, true, true, true, true, true, false, false, false]) (by kernel_rfl) rfl rfl rfl fun K hK => ?_
      go_simp
      refine (power_any b (n - 1 - k) _ _ HIN.out.2.1 HIN.out.2.2 (by omega) (by rw [IntKind.wrap_i64, IntKind.wrap_i64]; omega)).mono ?_
      rintro e u2 ⟨v, rfl, i, hb⟩
      replace T1 := hide (T1.out.below (hb))
      have HF' := hide (And.intro (HF.out.1.trans ((hb).mono HF.out.1.size)) (And.intro (HF.out.2.1.step (hb)) (HF.out.2.2.step (hb))))
      have T2 := hide (i)
      refine hK _ _ (fun _ => HF'.out) ?_
      clear hK K HF hb i
      have HF := hide HF'.out
      clear HF'
      refine Calm.one (i := 13) (l' := #[true, true, true, true, true, true, true, true, true, true, true, true, true, true, false, false]) (by kernel_rfl) rfl rfl rfl fun K hK => ?_
      go_simp
      refine (imul_any _ _ (a ^ k) (b ^ (n - 1 - k)) _ T1.out T2.out (SzI.len (pw_sz (by have k := HIN.out; omega) (by omega)) (by decide)) (SzI.len (pw_sz (by have k := HIN.out; omega) (by omega)) (by decide))).mono ?_
      rintro e u3 ⟨v, rfl, i, hb⟩
      obtain ⟨s3, m3, l3, c3, rfl, i⟩ := i.cells
      clear T1
      clear T2
      have HF' := hide (And.intro (HF.out.1.trans ((hb).mono HF.out.1.size)) (And.intro (HF.out.2.1.step (hb)) (HF.out.2.2.step (hb))))
      have T3 := hide (i)
      refine hK _ _ (fun _ => HF'.out) ?_
      clear hK K HF hb i
      have HF := hide HF'.out
      clear HF'
      refine Calm.take (i := 14) (v := ?_) (a' := ?_) (l' := #[true, true, true, true, true, true, true, true, true, true, true, true, true, true, true, false]) (d := some 40) rfl (by kernel_rfl) (by kernel_rfl) (by kernel_rfl) (by kernel_rfl) (fun _ _ _ h => h) HF.out rfl ?_ rfl rfl ?_ ?_
      rotate_left
      · intro w' hF; clear hF; go_simp; try rfl
      rotate_left
      · simp only [Act.put]; exact rfl
      refine Calm.one (i := 15) (l' := #[true, true, true, true, true, true, true, true, true, true, true, true, true, true, true, true]) (by kernel_rfl) rfl rfl rfl fun K hK => ?_
      obtain ⟨s0, m0, n0, c0, g1, g2, g3⟩ := HF.out.2.2.cells k (by rw [rowTo_len]; exact hlt)
      have f1 := HF.out.2.2.free (k * 2)
      have f2 := HF.out.2.2.free (k * 2 + 1)
      clear g3
      go_simp
      refine hK _ _ (fun h => absurd h (by decide)) ?_
      clear hK K
      refine Calm.done (by kernel_rfl) ?_
      go_wp2
      go_roundw
      case rel => exact ⟨k + 1, by omega, by go_num, by rw [← rowTo_set]; exact HF.out.2.2.put (by rw [rowTo_len]; exact hlt) T3.out, (HF.out.2.1.set_ne (by have := HG.out; omega) _).set_ne (by have := HG.out; omega) _, below_two HF.out.1 (by have := HG.out; omega) _ _⟩
      case measure => simp [intOf]; omega
    · have e : k = n := by omega
      subst e
      go_wp2
      go_ret2
      exact ⟨g, rfl, by rw [← rowTo_all]; exact HR.out, HB.out⟩
end Go.Proofs.Ytlockdhhidghdab
