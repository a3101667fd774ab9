/- limb.DivMod where the divisor is 0, has more limbs, or is one limb. -/
import Derived.Test.YtgkibmigbjjnnaaDivOwn
import Derived.Deep.RegionWith
namespace Go.Proofs.Ytgkibmigbjjnnaa
open Go.RowKit

theorem lim_len_pos {n : Nat} (h : 0 < n) : 0 < (lim n).length := by rw [lim_pos h]; simp

theorem Own.below {w w' : World} {base : Nat} {v : Value} {xs : List Nat} (h : Own w base v xs) (hb : Below w.heap.size w w') : Own w' base v xs := by
  unfold Own at *
  refine h.kept (row := none) ⟨hb.os, hb.tape, hb.output, hb.size, fun k hk _ => hb.block k hk⟩ ?_
  cases hv : v.ownBlock <;> simp

set_option maxRecDepth 100000 in
set_option maxHeartbeats 400000 in
theorem divmod_small (v1 v2 : Value) (xs ys : List Nat) (w : World) (h1 : Nums w v1 xs) (h2 : Nums w v2 ys) (b1 : xs.length ≤ 1000000000) (hlt : (lim (val xs)).length < (lim (val ys)).length) :
    Calls Try.prog 91 #[v1, v2] w fun e w' => ∃ r, e = .returned (.tuple #[.slice none 0 0, r, .int .i64 0]) ∧ Nums w' r (lim (val xs)) ∧ Below w.heap.size w w' := by
  have HN2 : Hid (Nums w v2 ys) := h2
  have HB := hide (lim_val_length h1.ok)
  go_enter Try.func91, Try.ntmps91
  go_wp2_with fail
  refine (trim_any v1 xs _ h1).mono ?_
  rintro e w1 ⟨v1', rfl, rfl, hN1, _⟩
  go_wp2_with fail
  refine (trim_any v2 ys _ HN2.out).mono ?_
  rintro e w1 ⟨v2', rfl, rfl, hN2, _⟩
  clear h1 h2 HN2
  have HN1 := hide hN1
  obtain ⟨_, a2, c2, rfl, hl2, hm2, _⟩ := hN2
  obtain ⟨_, a1, c1, rfl, hl1, hm1, _⟩ := hN1
  unfold maxLen at hm1 hm2
  have hne : ((((lim (val ys)).length : Nat) : Int) == 0) = false := by simp; intro h; rw [h] at hlt; simp at hlt
  go_wp2_with fail
  refine (norm_any _ _ _ HN1.out (by have := HB.out; omega)).mono ?_
  rintro e w1 ⟨v3, rfl, _, hN3, hb3⟩
  rw [val_lim] at hN3
  go_wp2
  go_ret3
  exact ⟨_, rfl, hN3, hb3⟩

set_option maxRecDepth 100000 in
set_option maxHeartbeats 1000000 in
theorem divmod_one (v1 v2 : Value) (xs ys : List Nat) (w : World) (h1 : Nums w v1 xs) (h2 : Nums w v2 ys) (b1 : xs.length ≤ 1000000000) (hlt : ¬ (lim (val xs)).length < (lim (val ys)).length) (hone : (lim (val ys)).length = 1) :
    Calls Try.prog 91 #[v1, v2] w fun e w' => ∃ q r, e = .returned (.tuple #[q, r, .int .i64 0]) ∧ Nums w' q (lim (val xs / val ys)) ∧ Nums w' r (lim (val xs % val ys)) ∧ Below w.heap.size w w' := by
  have HN2 : Hid (Nums w v2 ys) := h2
  have HB := hide (lim_val_length h1.ok)
  have HV := hide (val_lim (val ys))
  go_enter Try.func91, Try.ntmps91
  go_wp2_with fail
  refine (trim_any v1 xs _ h1).mono ?_
  rintro e w1 ⟨v1', rfl, rfl, hN1, _⟩
  go_wp2_with fail
  refine (trim_any v2 ys _ HN2.out).mono ?_
  rintro e w1 ⟨v2', rfl, rfl, hN2, _⟩
  clear h1 h2 HN2
  have HN1 := hide hN1
  obtain ⟨ho2, a2, c2, rfl, hl2, hm2, hc2⟩ := hN2
  obtain ⟨_, a1, c1, rfl, hl1, hm1, _⟩ := hN1
  unfold maxLen at hm1 hm2
  obtain ⟨b, off, rfl, hc⟩ := hc2 (ne_nil (k := 0) (by omega))
  obtain ⟨d, hd⟩ : ∃ d, lim (val ys) = [d] := by
    match h : lim (val ys), hone with
    | [d], _ => exact ⟨d, rfl⟩
  rw [hd] at hl2 hlt ho2 hc ⊢
  have HD : Hid (val ys = d) := by show val ys = d; rw [← HV.out, hd]; simp [val]
  have hd2 : d < 4294967296 := ho2.head
  have hd0 : Hid (0 < d) := by
    have : 0 < val ys := by
      by_cases e : val ys = 0
      · rw [e, lim_zero] at hd; cases hd
      · omega
    rw [HD.out] at this; exact this
  clear hone hd HV
  have hc0 : w.cell? ⟨b, off, none⟩ = some (.int .u32 (d : Nat)) := by have := hc 0 (by simp); simpa [lm] using this
  have hbw : b < w.heap.size := World.block_lt_of_cell? w _ hc0
  clear hc hc2
  have hp : 0 < (lim (val xs)).length := by simp only [List.length_singleton] at hlt; omega
  simp only [List.length_singleton] at hl2 hlt ⊢
  go_wp2_with fail
  go_region_with (first
    | (go_at_call 72; refine (norm_any _ (lim (val xs)) _ ?_ ?_).mono ?_; exact HN1.out; (have := HB.out; omega); rintro e w1 ⟨v3, rfl, hO3, hN3, hb3⟩; have hc1 : w1.cell? ⟨b, off, none⟩ = some (.int .u32 (d : Nat)) := (hb3.cell hbw).trans hc0)
    | (go_at_call 100; refine (divideOwn_any _ (lim (val (lim (val xs)))) d w.heap.size _ ?_ ?_ ?_ ?_).mono ?_; assumption; exact ok_lim _; exact hd0.out; exact hd2; rintro e w2 ⟨v4, rfl, hO4, hb4, _, _⟩))
  all_goals
    go_wp2_with fail
    have hrem : val (lim (val (lim (val xs)))) % d < BB := Nat.lt_trans (Nat.mod_lt _ hd0.out) hd2
    refine (norm_any _ [val (lim (val (lim (val xs)))) % d] _ (nums_lit1 _ _ _ _ (by rw [Int.natCast_emod]) hrem) (by simp)).mono ?_
    rintro e w3 ⟨v5, rfl, _, hN5, hb5⟩
    have HN4 := hide ((((hO4.nums (ok_lim _)).below (below_alloc _ _)).below hb5))
    have HB5 := hide (hb3.trans (hb4.trans (((below_alloc _ _).trans (hb5.mono (by simp))).mono (Nat.le_trans hb3.size hb4.size))))
    have HN5 := hide hN5
    clear hN5 hb5 hO4 hb4 hO3 hN3 hb3 hrem
    go_wp2
    go_ret3
    refine ⟨_, _, rfl, ?_, ?_, ?_⟩
    · have := HN4.out; rw [val_lim, val_lim] at this; rw [HD.out]; exact this
    · have := HN5.out; rw [val_lim, val_lim] at this; rw [HD.out]; simpa [val] using this
    · exact ((Below.refl _ w).drew).trans HB5.out
end Go.Proofs.Ytgkibmigbjjnnaa
