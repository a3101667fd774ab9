/- The document's answers for layer 1 (swageref01): Gcd. -/
import Derived.Test.YtcmdecodhpbpgaaRefDiv
import Derived.Test.YtcmdecodhpbpgaaDivAll
namespace Go.Proofs.Ytcmdecodhpbpgaa
open Go.RowKit

set_option maxHeartbeats 1000000 in
theorem rgcd_any (v1 v2 : Value) (xs ys : List Nat) (w : World) (h1 : Nums w v1 xs) (h2 : Nums w v2 ys) (b1 : xs.length ≤ 1000000) (b2 : ys.length ≤ 1000000) :
    Calls Try.prog 28 #[v1, v2] w fun e w' => ∃ v', e = .returned v' ∧ Nums w' v' (lim (Nat.gcd (val xs) (val ys))) ∧ Below w.heap.size w w' := by
  have HN2 := hide h2
  have HO1 := hide h1.ok
  have HO2 := hide h2.ok
  go_enter Try.func28, Try.ntmps28
  go_wp2_with fail
  refine (rnorm_any v1 xs _ h1 (by omega)).mono ?_
  rintro e w1 ⟨va, rfl, hO1, hb1⟩
  have n1 := hO1.nums (ok_lim _)
  have HN2' := hide (HN2.out.below hb1)
  clear h1 h2 HN2 hO1
  go_wp2_with fail
  refine (rnorm_any v2 ys _ HN2'.out (by omega)).mono ?_
  rintro e w2 ⟨vb, rfl, hO2, hb2⟩
  have HA := hide (n1.below hb2)
  have HB := hide (hO2.nums (ok_lim _))
  have HBL := hide (hb1.trans (hb2.mono hb1.size))
  clear n1 hO2 hb1 hb2 HN2'
  go_wp2
  go_loopw [0, 1] (fun xv yv wr => ∃ m n : Nat, Nat.gcd m n = Nat.gcd (val xs) (val ys) ∧ (lim m).length ≤ 1000000 ∧ (lim n).length ≤ 1000000 ∧ Nums wr xv (lim m) ∧ Nums wr yv (lim n) ∧ Below w.heap.size w wr) (fun _ yv wr => numOf wr yv)
  case atStart =>
    have e1 := lim_val_length HO1.out
    have e2 := lim_val_length HO2.out
    exact ⟨_, _, rfl, by omega, by omega, HA.out, HB.out, HBL.out⟩
  case round =>
    obtain ⟨m, n, hg, hm1, hn1, hNm, hNn, hbel⟩ := hrel
    have HG := hide hg
    have HM := hide hNm
    have HN := hide hNn
    have HBW := hide hbel
    have HNUM := hide hNn.numOf
    obtain ⟨_, ay, cy, rfl, hly, hmy, _⟩ := hNn
    unfold maxLen at hmy
    clear hg hNm hbel
    by_cases hz : n = 0
    · subst hz
      rw [lim_zero]
      go_wp2
      go_ret
      refine ⟨_, rfl, ?_, HBW.out⟩
      rw [← HG.out, Nat.gcd_zero_right]; exact HM.out
    · have hp : 0 < (lim n).length := lim_len_pos (by omega)
      go_wp2_with fail
      refine (rdivmod_any _ _ (lim m) (lim n) _ HM.out HN.out hm1 hn1 (by rw [val_lim]; omega)).mono ?_
      rintro e w3 ⟨q, r, rfl, _, hr, hb3⟩
      rw [val_lim, val_lim] at hr
      have HR := hide hr
      have HNr := hide (HN.out.below hb3)
      have HB3 := hide (HBW.out.trans (hb3.mono HBW.out.size))
      clear hr hb3
      go_wp2
      go_roundw
      case rel => exact ⟨n, m % n, by rw [← HG.out, Nat.gcd_comm m n, Nat.gcd_rec n m, Nat.gcd_comm], hn1, Nat.le_trans (lim_length_le (Nat.lt_of_lt_of_le (Nat.mod_lt m (by omega)) (Nat.le_of_lt (by have := val_lt (ok_lim n); rw [val_lim] at this; exact this)))) hn1, HNr.out, HR.out, HB3.out⟩
      case measure => rw [HNUM.out, HR.out.numOf, val_lim, val_lim]; exact Nat.mod_lt _ (by omega)
end Go.Proofs.Ytcmdecodhpbpgaa
