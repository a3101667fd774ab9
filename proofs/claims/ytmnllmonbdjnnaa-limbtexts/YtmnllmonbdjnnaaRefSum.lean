/- The document's answers for layer 1 (swageref01): Add, MulSmall. -/
import Derived.Test.YtmnllmonbdjnnaaRef
namespace Go.Proofs.Ytmnllmonbdjnnaa
open Go.RowKit

theorem AddAt.end {xs ys acc : List Nat} {k : Nat} (h : AddAt xs ys k 0 acc) (h1 : xs.length ≤ k) (h2 : ys.length ≤ k) : val acc = val xs + val ys := by
  have := h.sum
  rw [List.take_of_length_le h1, List.take_of_length_le h2] at this
  simpa using this

set_option maxRecDepth 100000 in
set_option maxHeartbeats 1000000 in
theorem radd_any (v1 v2 : Value) (xs ys : List Nat) (w : World) (h1 : Nums w v1 xs) (h2 : Nums w v2 ys) (b1 : xs.length ≤ 100000000) (b2 : ys.length ≤ 100000000) :
    Calls Try.prog 21 #[v1, v2] w fun e w' => ∃ v', e = .returned v' ∧ Own w' w.heap.size v' (lim (val xs + val ys)) ∧ Below w.heap.size w w' := by
  obtain ⟨i0, hi, hz0, hz1, hz2⟩ := info_parts Try.info33
  have HN1 := hide h1
  have HN2 := hide h2
  have HO1 := hide h1.ok
  have HO2 := hide h2.ok
  obtain ⟨_, a1, c1, rfl, hl1, hm1, _⟩ := h1
  obtain ⟨_, a2, c2, rfl, hl2, hm2, _⟩ := h2
  unfold maxLen at hm1 hm2
  go_enter Try.func21, Try.ntmps21
  go_wp2
  go_loopw [5, 6, 7] (fun ov cv iv wr => ∃ (k c : Nat) (acc : List Nat), (k ≤ xs.length ∨ k ≤ ys.length ∨ c = 0) ∧ k ≤ xs.length + ys.length + 1 ∧ iv = .int .i64 k ∧ cv = .int .u64 c ∧ AddAt xs ys k c acc ∧ Own wr w.heap.size ov acc ∧ Below w.heap.size w wr) (fun _ cv iv _ => 2 * (xs.length + ys.length + 1 - (intOf iv).toNat) + (intOf cv).toNat)
  case atStart => exact ⟨0, 0, [], .inl (Nat.zero_le _), by omega, rfl, rfl, AddAt.zero _ _, World.ownsRow_nil _ _ _ _, Below.refl _ _⟩
  case round =>
    obtain ⟨k, c, acc, hkc, hk, rfl, rfl, hat, hO, hB⟩ := hrel
    have HKC := hide hkc
    clear hkc
    have hc := hat.c1
    have hal : acc.length ≤ xs.length + ys.length + 1 := by rw [hat.len]; exact hk
    have HAT := hide hat
    have HO := hide hO
    have HB := hide hB
    have hsz := hB.size
    clear hat hO hB
    by_cases hgo : k < xs.length ∨ k < ys.length ∨ 0 < c
    · have hkk : k ≤ xs.length + ys.length := by
        have h3 := HKC.out
        omega
      have hx := HO1.out.at k
      have hy := HO2.out.at k
      unfold BB at hx hy
      have hca : ∀ P : Prop, (k < xs.length → P) → (¬ k < xs.length → k < ys.length → P) → (¬ k < xs.length → ¬ k < ys.length → 0 < c → P) → P := by
        intro P p1 p2 p3
        by_cases e1 : k < xs.length
        · exact p1 e1
        · by_cases e2 : k < ys.length
          · exact p2 e1 e2
          · exact p3 e1 e2 (by omega)
      clear hgo
      refine hca _ (fun g1 => ?_) (fun g1 g2 => ?_) (fun g1 g2 g3 => ?_)
      all_goals
        clear hca
        go_wp2_with fail
        refine (rat_any _ xs k _ (HN1.out.below (HB.out)) (by omega)).mono ?_
        rintro e w5 ⟨rfl, rfl⟩
        go_wp2_with fail
        refine (rat_any _ ys k _ (HN2.out.below (HB.out)) (by omega)).mono ?_
        rintro e w5 ⟨rfl, rfl⟩
        go_wp2_with (at_builtin; refine wpList_append_own _ rfl _ _ 22 rfl w.heap.size 33 i0 (.int .u32 0) 1 4 Try.underlying22 hi hz0 hz1 hz2 rfl (by decide) _ _ _ rfl (World.ownsRow.alloc HO.out _) ⟨_, 0, none⟩ 1 1 [.int .u32 (((c : Int) + ((lm xs k : Int) + (lm ys k : Int))) % 4294967296)] rfl rfl ?_ ?_ ?_ ?_ ?_ ?_)
        · intro i u hi'
          match i, hi' with
          | 0, hi' => simp at hi'; subst hi'; simp [Addr.add]
        · intro u hu; simp at hu; subst hu; rfl
        · unfold maxLen; omega
        · omega
        · simp; omega
        · intro v6 w6 hown6 hgrow6 _
          obtain ⟨hO6, hB6⟩ := append_own_step (n := (c + lm xs k + lm ys k) % BB) (by unfold BB; omega) HO.out hown6 hgrow6 HB.out (Nat.le_refl _)
          clear hown6 hgrow6
          go_wp2
          go_roundw
          case rel => exact ⟨k + 1, (c + lm xs k + lm ys k) / BB, _, by first | (left; omega) | (right; left; omega) | (right; right; rw [lm_over xs k (by omega), lm_over ys k (by omega)]; unfold BB; omega), by omega, by go_num, by congr 1; unfold BB; omega, HAT.out.step HO1.out HO2.out, hO6, hB6⟩
          case measure => simp [intOf]; omega
    · have HE : Hid (c = 0) := by show c = 0; omega
      have g1 : ¬ k < xs.length := by omega
      have g2 : ¬ k < ys.length := by omega
      have g3 : ¬ 0 < c := by omega
      clear hgo
      go_wp2_with fail
      refine (rnorm_any _ acc _ (HO.out.nums HAT.out.ok) (by omega)).mono ?_
      rintro e w5 ⟨v5, rfl, hO5, hb5⟩
      go_wp2
      go_ret
      have hv : val acc = val xs + val ys := AddAt.end (by have := HAT.out; rw [HE.out] at this; exact this) (by omega) (by omega)
      rw [hv] at hO5
      exact ⟨_, rfl, hO5.mono hsz, HB.out.trans (hb5.mono hsz)⟩
end Go.Proofs.Ytmnllmonbdjnnaa
