/- The document's answers for layer 1 (swageref01): MulSmall, Mul. -/
import Derived.Test.YtamcmdabhlbnjaaDoorRefSum
import Derived.Test.YtamcmdabhlbnjaaDoorTimes
namespace Go.Proofs.YtamcmdabhlbnjaaDoor
open Go.RowKit

theorem TimesAt.end {xs acc : List Nat} {c k : Nat} (h : TimesAt xs c 0 k 0 acc) (h1 : xs.length ≤ k) : val acc = c * val xs := by
  have := h.sum
  rw [List.take_of_length_le h1] at this
  simpa using this

theorem times_meas (L k q q' : Nat) (hq : q' < 4294967296) (h : k < L ∨ q' < q) : 4294967296 * (L - (k + 1)) + q' < 4294967296 * (L - k) + q := by
  rcases h with h | h
  · have : L - k = (L - (k + 1)) + 1 := by omega
    omega
  · have : L - (k + 1) ≤ L - k := by omega
    omega

set_option maxRecDepth 100000 in
set_option maxHeartbeats 1000000 in
theorem rmulSmall_any (v : Value) (xs : List Nat) (c : Nat) (w : World) (h : Nums w v xs) (hc : c < 4294967296) (b1 : xs.length ≤ 100000000) :
    Calls Tryd.prog 50 #[v, .int .u32 c] w fun e w' => ∃ v', e = .returned v' ∧ Own w' w.heap.size v' (lim (val xs * c)) ∧ Below w.heap.size w w' := by
  obtain ⟨i0, hi, hz0, hz1, hz2⟩ := info_parts Tryd.info32
  have HN1 := hide h
  have HO1 := hide h.ok
  have HCB : Hid (c < BB) := hc
  obtain ⟨_, a1, c1, rfl, hl1, hm1, _⟩ := h
  unfold maxLen at hm1
  go_enter Tryd.func50, Tryd.ntmps50
  go_wp2
  go_loopw [5, 6, 7] (fun ov qv iv wr => ∃ (k q : Nat) (acc : List Nat), (k ≤ xs.length ∨ q = 0) ∧ k ≤ xs.length + 1 ∧ iv = .int .i64 k ∧ qv = .int .u64 q ∧ TimesAt xs c 0 k q acc ∧ Own wr w.heap.size ov acc ∧ Below w.heap.size w wr) (fun _ qv iv _ => 4294967296 * (xs.length + 1 - (intOf iv).toNat) + (intOf qv).toNat)
  case atStart => exact ⟨0, 0, [], .inl (Nat.zero_le _), by omega, rfl, rfl, TimesAt.zero _ _ _ BB_pos, World.ownsRow_nil _ _ _ _, Below.refl _ _⟩
  case round =>
    obtain ⟨k, q, acc, hkc, hk, rfl, rfl, hat, hO, hB⟩ := hrel
    have HKC := hide hkc
    clear hkc
    have hq := hat.q1
    have hal : acc.length ≤ xs.length + 1 := by rw [hat.len]; exact hk
    have HAT := hide hat
    have HO := hide hO
    have HB := hide hB
    have hsz := hB.size
    unfold BB at hq
    clear hat hO hB
    by_cases hgo : k < xs.length ∨ 0 < q
    · have hkk : k ≤ xs.length := by have h3 := HKC.out; omega
      have hx := HO1.out.at k
      have hmul := mul_boundI (lm xs k) c hx HCB.out
      obtain ⟨hm0, hmm⟩ := hmul
      have HST := hide (HAT.out.step hx HCB.out)
      unfold BB at hx
      have hca : ∀ P : Prop, (k < xs.length → P) → (¬ k < xs.length → 0 < q → P) → P := by
        intro P p1 p2
        by_cases e1 : k < xs.length
        · exact p1 e1
        · exact p2 e1 (by omega)
      clear hgo
      refine hca _ (fun g1 => ?_) (fun g1 g2 => ?_)
      all_goals
        clear hca
        go_wp2_with fail
        refine (rat_any _ xs k _ (HN1.out.below (HB.out)) (by omega)).mono ?_
        rintro e w5 ⟨rfl, rfl⟩
        go_wp2_with (at_builtin; refine wpList_append_own _ rfl _ _ 22 rfl w.heap.size 32 i0 (.int .u32 0) 1 4 Tryd.underlying22 hi hz0 hz1 hz2 rfl (by decide) _ _ _ rfl (World.ownsRow.alloc HO.out _) ⟨_, 0, none⟩ 1 1 [.int .u32 (((q : Int) + (lm xs k : Int) * (c : Int)) % 4294967296)] rfl rfl ?_ ?_ ?_ ?_ ?_ ?_)
        · intro i u hi'
          match i, hi' with
          | 0, hi' => simp at hi'; subst hi'; simp [Addr.add]
        · intro u hu; simp at hu; subst hu; rfl
        · unfold maxLen; omega
        · omega
        · simp; omega
        · intro v6 w6 hown6 hgrow6 _
          obtain ⟨hO6, hB6⟩ := append_own_step (n := (q + lm xs k * c) % BB) (by rw [← Int.natCast_mul]; unfold BB; omega) HO.out hown6 hgrow6 HB.out (Nat.le_refl _)
          clear hown6 hgrow6
          go_wp2
          go_roundw
          case rel => exact ⟨k + 1, (q + lm xs k * c) / BB, _, by first | (left; omega) | (right; rw [lm_over xs k (by omega)]; unfold BB; omega), by omega, by go_num, congrArg (Value.int .u64) (by rw [← Int.natCast_mul]; unfold BB; omega), HST.out, hO6, hB6⟩
          case measure =>
            have hq2 := HST.out.q1
            have e1 : (((q : Int) + (lm xs k : Int) * (c : Int)) / 4294967296).toNat = (q + lm xs k * c) / BB := by rw [← Int.natCast_mul]; unfold BB; omega
            simp only [intOf]
            rw [e1]
            have e2 : ((k : Int) + 1).toNat = k + 1 := by omega
            rw [e2, Int.toNat_natCast, Int.toNat_natCast]
            refine times_meas _ _ _ _ hq2 ?_
            first | (left; omega) | (right; rw [lm_over xs k (by omega)]; unfold BB; omega)
    · have HE : Hid (q = 0) := by show q = 0; omega
      have g1 : ¬ k < xs.length := by omega
      have g3 : ¬ 0 < q := by omega
      clear hgo
      go_wp2_with fail
      refine (rnorm_any _ acc _ (HO.out.nums HAT.out.ok) (by omega)).mono ?_
      rintro e w5 ⟨v5, rfl, hO5, hb5⟩
      go_wp2
      go_ret
      have hv : val acc = c * val xs := TimesAt.end (by have := HAT.out; rw [HE.out] at this; exact this) (by omega)
      rw [hv, Nat.mul_comm] at hO5
      exact ⟨_, rfl, hO5.mono hsz, HB.out.trans (hb5.mono hsz)⟩
end Go.Proofs.YtamcmdabhlbnjaaDoor
