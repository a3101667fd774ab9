/- limb.DivMod, limb.DivSmall and limb.Gcd, of all numbers. -/
import Derived.Test.YtdhbjgedaclgcaaDoorDivMod
import Derived.Test.YtdhbjgedaclgcaaDoorDivLong
import Derived.Test.YtdhbjgedaclgcaaDoorLaw
namespace Go.Proofs.YtdhbjgedaclgcaaDoor
open Go.RowKit

theorem lim_top {n : Nat} (h : 0 < n) : lm (lim n) ((lim n).length - 1) ≠ 0 := by
  refine lim_ind (p := fun n => 0 < n → lm (lim n) ((lim n).length - 1) ≠ 0) (by intro h; omega) (fun n hn ih => ?_) n h
  intro _
  rw [lim_pos hn]
  by_cases h0 : n / BB = 0
  · rw [h0, lim_zero]
    have := Nat.div_add_mod n BB
    rw [h0, Nat.mul_zero, Nat.zero_add] at this
    simp [lm]; omega
  · have := ih (Nat.pos_of_ne_zero h0)
    have hp := lim_len_pos (n := n / BB) (Nat.pos_of_ne_zero h0)
    obtain ⟨m, hm⟩ : ∃ m, (lim (n / BB)).length = m + 1 := ⟨(lim (n / BB)).length - 1, by omega⟩
    rw [hm] at this
    simp only [List.length_cons, hm, Nat.add_sub_cancel] at this ⊢
    simpa [lm] using this

set_option maxRecDepth 100000 in
set_option maxHeartbeats 1000000 in
theorem divmod_long (v1 v2 : Value) (xs ys : List Nat) (w : World) (h1 : Nums w v1 xs) (h2 : Nums w v2 ys) (b1 : xs.length ≤ 1000000000) (hlt : ¬ (lim (val xs)).length < (lim (val ys)).length) (hone : 2 ≤ (lim (val ys)).length) :
    Calls Tryd.prog 11 #[v1, v2] w fun e w' => ∃ q r, e = .returned (.tuple #[q, r, .int .i64 0]) ∧ Nums w' q (lim (val xs / val ys)) ∧ Nums w' r (lim (val xs % val ys)) ∧ Below w.heap.size w w' := by
  have HN2 : Hid (Nums w v2 ys) := h2
  have HB := hide (lim_val_length h1.ok)
  have HT : Hid (0 < lm (lim (val ys)) ((lim (val ys)).length - 1)) := by
    have : 0 < val ys := by
      rcases Nat.eq_zero_or_pos (val ys) with e | e
      · rw [e, lim_zero] at hone; simp at hone
      · exact e
    exact Nat.pos_of_ne_zero (lim_top this)
  have hne0 : ((((lim (val ys)).length : Nat) : Int) == 0) = false := by simp; intro h; rw [h] at hone; simp at hone
  have hne1 : ((((lim (val ys)).length : Nat) : Int) == 1) = false := by simp; omega
  go_enter Tryd.func11, Tryd.ntmps11
  go_wp2_with fail
  refine (trim_any v1 xs _ h1).mono ?_
  rintro e w1 ⟨v1', rfl, rfl, hN1, _⟩
  go_wp2_with fail
  refine (trim_any v2 ys _ HN2.out).mono ?_
  rintro e w1 ⟨v2', rfl, rfl, hN2, _⟩
  clear h1 h2 HN2
  have HN1 := hide hN1
  have HN2 := hide hN2
  obtain ⟨_, a2, c2, rfl, hl2, hm2, _⟩ := hN2
  obtain ⟨_, a1, c1, rfl, hl1, hm1, _⟩ := hN1
  unfold maxLen at hm1 hm2
  go_wp2_with fail
  refine (divideLong_any _ _ (lim (val xs)) (lim (val ys)) ((lim (val ys)).length - 2) _ HN1.out HN2.out (by omega) (by rw [show (lim (val ys)).length - 2 + 1 = (lim (val ys)).length - 1 from by omega]; exact HT.out) (by omega) (by have := HB.out; omega)).mono ?_
  rintro e w2 ⟨q, r, rfl, hq, hr, hb⟩
  rw [val_lim, val_lim] at hq hr
  have HQ := hide hq
  have HR := hide hr
  clear hq hr
  go_wp2
  go_ret3
  exact ⟨_, _, rfl, HQ.out, HR.out, hb⟩

theorem divmod_any (v1 v2 : Value) (xs ys : List Nat) (w : World) (h1 : Nums w v1 xs) (h2 : Nums w v2 ys) (b1 : xs.length ≤ 1000000000) (hy : 0 < val ys) :
    Calls Tryd.prog 11 #[v1, v2] w fun e w' => ∃ q r, e = .returned (.tuple #[q, r, .int .i64 0]) ∧ Nums w' q (lim (val xs / val ys)) ∧ Nums w' r (lim (val xs % val ys)) ∧ Below w.heap.size w w' := by
  by_cases hlt : (lim (val xs)).length < (lim (val ys)).length
  · refine (divmod_small v1 v2 xs ys w h1 h2 b1 hlt).mono ?_
    rintro e w' ⟨r, rfl, hr, hb⟩
    have hxy := lim_len_lt hlt
    refine ⟨_, r, rfl, ?_, ?_, hb⟩
    · rw [Nat.div_eq_of_lt hxy, lim_zero]; exact Nums.nil_mk _ _ _ (Nat.zero_le _)
    · rw [Nat.mod_eq_of_lt hxy]; exact hr
  · by_cases hone : (lim (val ys)).length = 1
    · exact divmod_one v1 v2 xs ys w h1 h2 b1 hlt hone
    · exact divmod_long v1 v2 xs ys w h1 h2 b1 hlt (by have := lim_len_pos hy; omega)

set_option maxRecDepth 100000 in
set_option maxHeartbeats 400000 in
theorem divSmall_zero (v : Value) (w : World) :
    Calls Tryd.prog 10 #[v, .int .u32 0] w fun e w' => e = .returned (.tuple #[.slice none 0 0, .int .u32 0, .int .i64 2]) ∧ w' = w := by
  go_enter Tryd.func10, Tryd.ntmps10
  go_wp2
  go_ret3
  exact ⟨rfl, rfl⟩

set_option maxRecDepth 100000 in
set_option maxHeartbeats 400000 in
theorem divSmall_any (v : Value) (xs : List Nat) (c : Nat) (w : World) (h : Nums w v xs) (hc : 0 < c) (hc2 : c < 4294967296) (b1 : xs.length ≤ 1000000000) :
    Calls Tryd.prog 10 #[v, .int .u32 c] w fun e w' => ∃ q, e = .returned (.tuple #[q, .int .u32 (val xs % c : Nat), .int .i64 0]) ∧ Nums w' q (lim (val xs / c)) ∧ Below w.heap.size w w' := by
  have hne : (((c : Nat) : Int) == 0) = false := by simp; omega
  go_enter Tryd.func10, Tryd.ntmps10
  go_wp2_with fail
  refine (norm_any v xs _ h b1).mono ?_
  rintro e w1 ⟨v1, rfl, hO, _, hb⟩
  go_wp2_with fail
  refine (divideOwn_any v1 (lim (val xs)) c w.heap.size _ hO (ok_lim _) hc hc2).mono ?_
  rintro e w2 ⟨v2, rfl, hO2, hb2, _, _⟩
  rw [val_lim] at hO2
  have HV := hide (val_lim (val xs))
  have HO2 := hide (hO2.nums (ok_lim _))
  clear hO2 hO
  go_wp2
  go_ret3
  refine ⟨v2, ?_, HO2.out, hb.trans hb2⟩
  first | (rw [HV.out]; rfl) | (rw [HV.out])

set_option maxRecDepth 100000 in
set_option maxHeartbeats 1000000 in
theorem gcd_any (v1 v2 : Value) (xs ys : List Nat) (w : World) (h1 : Nums w v1 xs) (h2 : Nums w v2 ys) (b1 : xs.length ≤ 1000000000) (b2 : ys.length ≤ 1000000000) :
    Calls Tryd.prog 15 #[v1, v2] w fun e w' => ∃ v', e = .returned v' ∧ Nums w' v' (lim (Nat.gcd (val xs) (val ys))) ∧ Below w.heap.size w w' := by
  have HN2 := hide h2
  have HO1 := hide h1.ok
  have HO2 := hide h2.ok
  go_enter Tryd.func15, Tryd.ntmps15
  go_wp2_with fail
  refine (norm_any v1 xs _ h1 b1).mono ?_
  rintro e w1 ⟨va, rfl, _, n1, hb1⟩
  have HN2' := hide (HN2.out.below hb1)
  clear h1 h2 HN2
  go_wp2_with fail
  refine (norm_any v2 ys _ HN2'.out b2).mono ?_
  rintro e w2 ⟨vb, rfl, _, n2, hb2⟩
  have HA := hide (n1.below hb2)
  have HB := hide n2
  have HBL := hide (hb1.trans (hb2.mono hb1.size))
  clear n1 n2 hb1 hb2 HN2'
  go_wp2
  go_loopw [5, 6] (fun xv yv wr => ∃ m n : Nat, Nat.gcd m n = Nat.gcd (val xs) (val ys) ∧ (lim m).length ≤ 1000000000 ∧ (lim n).length ≤ 1000000000 ∧ Nums wr xv (lim m) ∧ Nums wr yv (lim n) ∧ Below w.heap.size w wr) (fun _ yv wr => numOf wr yv)
  case atStart =>
    have e1 := lim_val_length HO1.out
    have e2 := lim_val_length HO2.out
    exact ⟨_, _, rfl, by omega, by omega, HA.out, HB.out, HBL.out⟩
  case round =>
    obtain ⟨m, n, hg, hm1, hn1, hNm, hNn, hbel⟩ := hrel
    have HG := hide hg
    have HM := hide hNm
    have HN := hide hNn
    have HBW := hide hbel
    have HNUM := hide hNn.numOf
    obtain ⟨_, ay, cy, rfl, hly, hmy, _⟩ := hNn
    unfold maxLen at hmy
    clear hg hNm hbel
    by_cases hz : n = 0
    · subst hz
      rw [lim_zero]
      go_wp2
      go_ret
      refine ⟨_, rfl, ?_, HBW.out⟩
      rw [← HG.out, Nat.gcd_zero_right]; exact HM.out
    · have hp : 0 < (lim n).length := lim_len_pos (by omega)
      go_wp2_with fail
      refine (divmod_any _ _ (lim m) (lim n) _ HM.out HN.out hm1 (by rw [val_lim]; omega)).mono ?_
      rintro e w3 ⟨q, r, rfl, _, hr, hb3⟩
      rw [val_lim, val_lim] at hr
      have HR := hide hr
      have HNr := hide (HN.out.below hb3)
      have HB3 := hide (HBW.out.trans (hb3.mono HBW.out.size))
      clear hr hb3
      go_wp2
      go_roundw
      case rel => exact ⟨n, m % n, by rw [← HG.out, Nat.gcd_comm m n, Nat.gcd_rec n m, Nat.gcd_comm], hn1, Nat.le_trans (lim_length_le (Nat.lt_of_lt_of_le (Nat.mod_lt m (by omega)) (Nat.le_of_lt (by have := val_lt (ok_lim n); rw [val_lim] at this; exact this)))) hn1, HNr.out, HR.out, HB3.out⟩
      case measure => rw [HNUM.out, HR.out.numOf, val_lim, val_lim]; exact Nat.mod_lt _ (by omega)
end Go.Proofs.YtdhbjgedaclgcaaDoor
