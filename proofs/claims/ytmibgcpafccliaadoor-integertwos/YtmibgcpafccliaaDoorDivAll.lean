/- limb.DivMod, limb.DivSmall and limb.Gcd, of all numbers. -/
import Derived.Test.YtmibgcpafccliaaDoorDivMod
import Derived.Test.YtmibgcpafccliaaDoorDivLong
import Derived.Test.YtmibgcpafccliaaDoorLaw
namespace Go.Proofs.YtmibgcpafccliaaDoor
open Go.RowKit

theorem lim_top {n : Nat} (h : 0 < n) : lm (lim n) ((lim n).length - 1) ≠ 0 := by
  refine lim_ind (p := fun n => 0 < n → lm (lim n) ((lim n).length - 1) ≠ 0) (by intro h; omega) (fun n hn ih => ?_) n h
  intro _
  rw [lim_pos hn]
  by_cases h0 : n / BB = 0
  · rw [h0, lim_zero]
    have := Nat.div_add_mod n BB
    rw [h0, Nat.mul_zero, Nat.zero_add] at this
    simp [lm]; omega
  · have := ih (Nat.pos_of_ne_zero h0)
    have hp := lim_len_pos (n := n / BB) (Nat.pos_of_ne_zero h0)
    obtain ⟨m, hm⟩ : ∃ m, (lim (n / BB)).length = m + 1 := ⟨(lim (n / BB)).length - 1, by omega⟩
    rw [hm] at this
    simp only [List.length_cons, hm, Nat.add_sub_cancel] at this ⊢
    simpa [lm] using this

set_option maxRecDepth 100000 in
set_option maxHeartbeats 1000000 in
theorem divmod_long (v1 v2 : Value) (xs ys : List Nat) (w : World) (h1 : Nums w v1 xs) (h2 : Nums w v2 ys) (b1 : xs.length ≤ 1000000000) (hlt : ¬ (lim (val xs)).length < (lim (val ys)).length) (hone : 2 ≤ (lim (val ys)).length) :
    Calls Tryd.prog 40 #[v1, v2] w fun e w' => ∃ q r, e = .returned (.tuple #[q, r, .int .i64 0]) ∧ Nums w' q (lim (val xs / val ys)) ∧ Nums w' r (lim (val xs % val ys)) ∧ Below w.heap.size w w' := by
  have HN2 : Hid (Nums w v2 ys) := h2
  have HB := hide (lim_val_length h1.ok)
  have HT : Hid (0 < lm (lim (val ys)) ((lim (val ys)).length - 1)) := by
    have : 0 < val ys := by
      rcases Nat.eq_zero_or_pos (val ys) with e | e
      · rw [e, lim_zero] at hone; simp at hone
      · exact e
    exact Nat.pos_of_ne_zero (lim_top this)
  have hne0 : ((((lim (val ys)).length : Nat) : Int) == 0) = false := by simp; intro h; rw [h] at hone; simp at hone
  have hne1 : ((((lim (val ys)).length : Nat) : Int) == 1) = false := by simp; omega
  go_enter Tryd.func40, Tryd.ntmps40
  go_wp2_with fail
  refine (trim_any v1 xs _ h1).mono ?_
  rintro e w1 ⟨v1', rfl, rfl, hN1, _⟩
  go_wp2_with fail
  refine (trim_any v2 ys _ HN2.out).mono ?_
  rintro e w1 ⟨v2', rfl, rfl, hN2, _⟩
  clear h1 h2 HN2
  have HN1 := hide hN1
  have HN2 := hide hN2
  obtain ⟨_, a2, c2, rfl, hl2, hm2, _⟩ := hN2
  obtain ⟨_, a1, c1, rfl, hl1, hm1, _⟩ := hN1
  unfold maxLen at hm1 hm2
  go_wp2_with fail
  refine (divideLong_any _ _ (lim (val xs)) (lim (val ys)) ((lim (val ys)).length - 2) _ HN1.out HN2.out (by omega) (by rw [show (lim (val ys)).length - 2 + 1 = (lim (val ys)).length - 1 from by omega]; exact HT.out) (by omega) (by have := HB.out; omega)).mono ?_
  rintro e w2 ⟨q, r, rfl, hq, hr, hb⟩
  rw [val_lim, val_lim] at hq hr
  have HQ := hide hq
  have HR := hide hr
  clear hq hr
  go_wp2
  go_ret3
  exact ⟨_, _, rfl, HQ.out, HR.out, hb⟩

theorem divmod_any (v1 v2 : Value) (xs ys : List Nat) (w : World) (h1 : Nums w v1 xs) (h2 : Nums w v2 ys) (b1 : xs.length ≤ 1000000000) (hy : 0 < val ys) :
    Calls Tryd.prog 40 #[v1, v2] w fun e w' => ∃ q r, e = .returned (.tuple #[q, r, .int .i64 0]) ∧ Nums w' q (lim (val xs / val ys)) ∧ Nums w' r (lim (val xs % val ys)) ∧ Below w.heap.size w w' := by
  by_cases hlt : (lim (val xs)).length < (lim (val ys)).length
  · refine (divmod_small v1 v2 xs ys w h1 h2 b1 hlt).mono ?_
    rintro e w' ⟨r, rfl, hr, hb⟩
    have hxy := lim_len_lt hlt
    refine ⟨_, r, rfl, ?_, ?_, hb⟩
    · rw [Nat.div_eq_of_lt hxy, lim_zero]; exact Nums.nil_mk _ _ _ (Nat.zero_le _)
    · rw [Nat.mod_eq_of_lt hxy]; exact hr
  · by_cases hone : (lim (val ys)).length = 1
    · exact divmod_one v1 v2 xs ys w h1 h2 b1 hlt hone
    · exact divmod_long v1 v2 xs ys w h1 h2 b1 hlt (by have := lim_len_pos hy; omega)



end Go.Proofs.YtmibgcpafccliaaDoor
